/-
  Hao, Hag, Mb4, Mb5, Mb6, Mb7, Ref4c: texts of ours that lie in one file.
-/
import Derived.Test.YtkdghgiajifbdaaDoorQ03
import Derived.Test.YtkdghgiajifbdaaDoorQ15
import Derived.Test.YtkdghgiajifbdaaDoorQ12
import Derived.Test.YtkdghgiajifbdaaDoorQ11
import Derived.Laws.OwnMore
set_option linter.unusedVariables false
set_option linter.unusedSimpArgs false
set_option maxHeartbeats 8000000
set_option maxRecDepth 100000
namespace Go.Proofs.YtkdghgiajifbdaaDoor.Hc
open Go.ChangeShapes Go.WideShapes Go.ChangeAt Go.RowKit Mm Hh

variable {v : Value}
theorem c34:Tryd.prog.cellsOf 43=37:=by kernel_rfl
theorem c32:Tryd.prog.cellsOf 41=32:=by kernel_rfl
theorem c22:Tryd.prog.cellsOf 24=1:=by kernel_rfl
theorem c4:Tryd.prog.cellsOf 4=1:=by kernel_rfl
theorem c3:Tryd.prog.cellsOf 3=1:=by kernel_rfl
theorem list6 {α:Type}{l:List α}(h:l.length=6):∃a b c d e f,l=[a,b,c,d,e,f]:=by
 match l,h with
 | [a,b,c,d,e,f],_=>exact ⟨a,b,c,d,e,f,rfl⟩
theorem cut_one {l:List Value}{k:Nat}(h:(l.drop k).take 1=[v]):l[k]?=some v:=by
 have:=congrArg (fun x=>x[0]?) h
 simpa using this
theorem u32_bd {n:Int}(h:(Lit.int .u32 n).wf=true):0≤n∧n<4294967296:=by
 have:0≤n∧n≤4294967295:=by simpa [Lit.wf,IntKind.min,IntKind.max,IntKind.signed,IntKind.bits] using h
 omega
theorem open_hart {H:Type}{enc:TypeId×Value→H}{W:World}{base b0:Nat}{sp:Nat→Bool}{held:Bool}{d:DataW H}{p:List MemPlace}
  (hv:Value.okWide Tryd.prog W .any base 43 v)(h:DataW.Trod enc Tryd.prog W b0 sp held 43 v d p):∃hh:Hv,v=.agg (hA hh)∧hh.Ok:=by
 obtain ⟨cs,rfl,hsz⟩:=okWide_struct Tryd.underlying43 hv
 rw [c34] at hsz
 obtain ⟨l⟩:=cs
 obtain ⟨fuel,hf⟩:=h
 obtain ⟨xs,m,rfl,hx,_,hlen,hel⟩:=DataW.trod_struct Tryd.underlying43 hf
 obtain ⟨y0,y1,y2,y3,y4,y5,rfl⟩:=list6 (l:=xs) hlen
 clear hf hv hlen hx
 have k0:DataW.trod enc Tryd.prog W b0 sp held m 41 ((l.drop 0).take (Tryd.prog.cellsOf 41))=some y0:=hel 0 _ rfl
 have k1:DataW.trod enc Tryd.prog W b0 sp held m 24 ((l.drop 32).take (Tryd.prog.cellsOf 24))=some y1:=hel 1 _ rfl
 have k2:DataW.trod enc Tryd.prog W b0 sp held m 4 ((l.drop 33).take (Tryd.prog.cellsOf 4))=some y2:=hel 2 _ rfl
 have k3:DataW.trod enc Tryd.prog W b0 sp held m 24 ((l.drop 34).take (Tryd.prog.cellsOf 24))=some y3:=hel 3 _ rfl
 have k4:DataW.trod enc Tryd.prog W b0 sp held m 3 ((l.drop 35).take (Tryd.prog.cellsOf 3))=some y4:=hel 4 _ rfl
 have k5:DataW.trod enc Tryd.prog W b0 sp held m 3 ((l.drop 36).take (Tryd.prog.cellsOf 3))=some y5:=hel 5 _ rfl
 clear hel
 have hl:l.length=37:=by simpa using hsz
 obtain ⟨pc,e1,_,w1⟩:=DataW.trod_int Tryd.underlying24 k1
 obtain ⟨hd,e2,_⟩:=DataW.trod_bool Tryd.underlying4 k2
 obtain ⟨ha,e3,_,w3⟩:=DataW.trod_int Tryd.underlying24 k3
 obtain ⟨st,e4,_,_⟩:=DataW.trod_int Tryd.underlying3 k4
 obtain ⟨ca,e5,_,_⟩:=DataW.trod_int Tryd.underlying3 k5
 obtain ⟨zs,m2,rfl,_,_,hzl,hze⟩:=DataW.trod_array Tryd.underlying41 k0
 clear k0 k1 k2 k3 k4 k5
 rw [c22] at e1 e3
 rw [c4] at e2
 rw [c3] at e4 e5
 have q1:=cut_one e1
 have q2:=cut_one e2
 have q3:=cut_one e3
 have q4:=cut_one e4
 have q5:=cut_one e5
 have qr:∀i,i<32→∃n,l[i]?=some (.int .u32 n)∧0≤n∧n<4294967296:=fun i hi=>by
  have ki:=hze i hi
  rw [List.getElem?_eq_getElem (by omega)] at ki
  obtain ⟨n,en,_,wn⟩:=DataW.trod_int Tryd.underlying24 ki
  rw [c22,c32] at en
  refine ⟨n,?_,u32_bd wn⟩
  have:=congrArg (fun x=>x[0]?) en
  simp only [List.getElem?_take,List.getElem?_drop] at this
  rw [if_pos (by omega),if_pos (by omega)] at this
  simpa using this
 clear hze e1 e2 e3 e4 e5
 have qn:∀i,i<32→l[i]?=some (.int .u32 (intOf (l.getD i undef)))∧0≤intOf (l.getD i undef)∧intOf (l.getD i undef)<4294967296:=fun i hi=>by
  obtain ⟨n,en,b⟩:=qr i hi
  simp only [List.getD,en,Option.getD_some,intOf]
  exact ⟨trivial,b⟩
 refine ⟨⟨(List.range 32).map fun i=>intOf (l.getD i undef),pc,hd,ha,st,ca⟩,?_,?_⟩
 ·have:l=hL ⟨(List.range 32).map fun i=>intOf (l.getD i undef),pc,hd,ha,st,ca⟩:=by
   apply List.ext_getElem?
   intro i
   unfold hL
   by_cases hi:i<32
   ·rw [List.getElem?_append_left (by simpa using hi),(qn i hi).1]
    simp [hi]
   ·rw [List.getElem?_append_right (by simp;omega)]
    simp only [List.length_map,List.length_range]
    by_cases h37:i<37
    ·have:i=32∨i=33∨i=34∨i=35∨i=36:=by omega
     rcases this with rfl|rfl|rfl|rfl|rfl
     ·exact q1
     ·exact q2
     ·exact q3
     ·exact q4
     ·exact q5
    ·rw [List.getElem?_eq_none (by omega),List.getElem?_eq_none (by simp;omega)]
  unfold hA
  rw [←this]
 ·refine ⟨by simp,fun i=>?_,(u32_bd w1).1,(u32_bd w1).2,(u32_bd w3).1,(u32_bd w3).2⟩
  unfold rg
  simp only [List.getD,List.getElem?_map]
  by_cases hi:i<32
  ·rw [List.getElem?_eq_getElem (by simpa using hi)]
   simp only [List.getElem_range,Option.map_some,Option.getD_some]
   exact (qn i hi).2
  ·rw [List.getElem?_eq_none (by simp;omega)]
   simp
end Go.Proofs.YtkdghgiajifbdaaDoor.Hc
namespace Go.Proofs.YtkdghgiajifbdaaDoor.Hc
open Go.ChangeShapes Go.WideShapes Go.ChangeAt Go.RowKit Mm Hh

end Go.Proofs.YtkdghgiajifbdaaDoor.Hc
namespace Go.Proofs.YtkdghgiajifbdaaDoor.Mc
open Go.ChangeShapes Go.WideShapes Go.ChangeAt Go.RowKit Mm Hh Hc

end Go.Proofs.YtkdghgiajifbdaaDoor.Mc
namespace Go.Proofs.YtkdghgiajifbdaaDoor.Mc
open Go.ChangeShapes Go.WideShapes Go.ChangeAt Go.RowKit Mm Hh Hc

end Go.Proofs.YtkdghgiajifbdaaDoor.Mc
namespace Go.Proofs.YtkdghgiajifbdaaDoor.Mc
open Go.ChangeShapes Go.WideShapes Go.ChangeAt Go.RowKit Mm Hh Hc

end Go.Proofs.YtkdghgiajifbdaaDoor.Mc
namespace Go.Proofs.YtkdghgiajifbdaaDoor.Mc
open Go.ChangeShapes Go.WideShapes Go.ChangeAt Go.RowKit Mm Hh Hc

def Src (w:World) (vx:Value) (m sz:Nat) (news:List Value):Prop:=
 (vx=.slice none 0 0∧m=0∧news=[])∨∃ad c,vx=.slice (some ad) m c∧news.length=m*sz∧∀j u,news[j]?=some u→w.cell? (ad.add j)=some u
section
variable {w : World} {m : Nat}
end
theorem Ch.setCells {g:Nat}{a w:World}(h:Ch g a w):∀(vs:List Value) (o:Nat),Ch g a (w.setCells g o vs)
 | [],o=>h
 | v::r,o=>by rw [World.setCells];exact Ch.setCells (h.setCell o v) r (o+1)
end Go.Proofs.YtkdghgiajifbdaaDoor.Mc
namespace Go.Proofs.YtkdghgiajifbdaaDoor.Hr
open Go.ChangeShapes Go.WideShapes Go.ChangeAt Go.RowKit Mm Hh

variable {w w' : World} {I Z D : Array Value} {d : Dv} {ao : Option Addr} {n cap B : Nat} {l : List UInt8}
def iA (op rd r1 r2 im:Int):Array Value:=#[.int .i64 op,.int .i64 rd,.int .i64 r1,.int .i64 r2,.int .i32 im]
theorem three_blocks {A:Array Value}{t u v:Nat}(g:Gr (((w.alloc (.cells A t)).alloc (.cells I u)).alloc (.cells Z v)) w'):
  w'.heap[w.heap.size]?=some (.cells A t (0,0))∧w'.heap[w.heap.size+1]?=some (.cells I u (0,0))∧w'.heap[w.heap.size+1+1]?=some (.cells Z v (0,0)):=by
 refine ⟨heap_of_gr g ?_,heap_of_gr g ?_,heap_of_gr g ?_⟩
 ·rw [heap_alloc_old _ _ (by simp;omega)];exact heap_alloc2_old _ _ _
 ·rw [heap_alloc_old _ _ (by simp)];exact heap_alloc2_new _ _ _
 ·have:=heap_alloc_new ((w.alloc (.cells A t)).alloc (.cells I u)) (.cells Z v)
  simpa using this
theorem first_of_three (w:World)(A I Z:Array Value)(t u v:Nat):(((w.alloc (.cells A t)).alloc (.cells I u)).alloc (.cells Z v)).heap[w.heap.size]?=some (.cells A t (0,0)):=(three_blocks (Gr.refl _)).1
theorem atom_fault (o:d.Ok)(hm:d.m=.slice ao n cap)(op rd r1 r2 im a b:Int)(M:Mem w ao n l)(hn:n≤140737488351232)(h0:0≤a)(h1:a<4294967296)(ok:ldOk l 13 a=false):
  Calls Tryd.prog 82 #[.agg (dA d),.agg (iA op rd r1 r2 im),.int .u32 a,.int .u32 b] w fun e w'=>e=.returned (.tuple #[.agg (dA (d.setH (d.h.trap (if op=46 then 3 else 4)))),.bool false])∧Gr w w':=by
 have L:Hid (∀W:World,Gr w W→Calls Tryd.prog 38 #[.slice ao n cap,.int .i64 13,.int .u32 a] W fun e w'=>e=.returned (.tuple #[.int .u32 (ldV l 13 a),.bool false])∧w'=W):=fun W G=>by
  have:=Mr.Load_any cap 13 a (M.of G) hn h0 h1
  rwa [ok] at this
 have T:Hid (∀(c:Int) (W:World),_):=fun c W=>trap_any o c W
 have SE:Hid (∀c,(dA (d.setH (d.h.trap c))).size=41):=fun c=>dA_size (d:=d.setH _) (o.h.trap c)
 have H1:Hid (∀c,(dA (d.setH (d.h.trap c))).all (·.oneCell')=true):=fun c=>one_dA (o.setH (o.h.trap c))
 have g37:(dA d)[37]?=some (.slice ao n cap):=by rw [dA_fld o.h 0];simp [hm]
 have hs:Hid ((dA d).size=41):=dA_size o.h
 generalize dA d=D0 at *
 generalize ldV l 13 a=y at *
 clear M hm ok o
 unfold iA
 by_cases h46:op=46
 ·rw [if_pos h46]
  have b46:(op == 46)=true:=by simp [h46]
  clear h46
  have S3:=SE.out 3
  have O3:=H1.out 3
  generalize hD:dA (d.setH (d.h.trap 3))=D2 at *
  have T3:Hid (∀W:World,Calls Tryd.prog 77 #[.agg D0,.int .i64 3] W fun e w'=>e=.returned (.agg D2)∧Gr W w'):=fun W=>by rw [←hD];exact T.out 3 W
  have HS:Hid _:=S3
  have HO:Hid _:=O3
  clear SE H1 T S3 O3 hD
  go_enter Tryd.func82,Tryd.ntmps82
  go_wp2_with fail
  refine (L.out _ ((((Gr.refl _).alloc _).alloc _).alloc _)).mono ?_
  rintro e w' ⟨rfl,rfl⟩
  go_wp2_with (refine wpList_load_row rfl 95 _ rfl w.heap.size rfl 95 D0 (0,0) _ ?hb1 Tryd.underlying95 rfl (by rw [hs.out];exact iD) ?_;(case hb1=>exact first_of_three w _ _ _ _ _ _))
  refine (T3.out _).mono ?_
  rintro e w1 ⟨rfl,G1⟩
  have HR:Hid (∃Z:Array Value,Z.size=41∧w1.heap[w.heap.size+1+1]?=some (.cells Z 95 (0,0))):=⟨_,rfl,(three_blocks G1).2.2⟩
  have HG:Hid (Gr w w1):=((((Gr.refl _).alloc _).alloc _).alloc _).trans G1
  obtain ⟨Z,hz,hR⟩:=HR.out
  have HR2:Hid _:=hR
  clear G1 T3 L HR hR
  go_wp2_with (refine wpList_store_row rfl 95 _ _ rfl (w.heap.size+1+1) D2 rfl rfl 95 Z ?hb2 (by rw [HS.out];exact iD) (by rw [HS.out,hz]) HO.out ?_;(case hb2=>exact HR2.out))
  refine bodyPost_ret (v:=.tuple #[.agg D2,.bool false]) (results_cell_tmp' Tryd.results82 _ _ _ _ _ (0,0) _ _ rfl rfl (srh HR2.out) Tryd.underlying95 rfl (by rw [HS.out];exact iD)) rfl ⟨rfl,?_⟩
  exact gr_setRow HG.out (by omega) _
 ·rw [if_neg h46]
  have b46:(op == 46)=false:=by simp [h46]
  clear h46
  have S3:=SE.out 4
  have O3:=H1.out 4
  generalize hD:dA (d.setH (d.h.trap 4))=D2 at *
  have T3:Hid (∀W:World,Calls Tryd.prog 77 #[.agg D0,.int .i64 4] W fun e w'=>e=.returned (.agg D2)∧Gr W w'):=fun W=>by rw [←hD];exact T.out 4 W
  have HS:Hid _:=S3
  have HO:Hid _:=O3
  clear SE H1 T S3 O3 hD
  go_enter Tryd.func82,Tryd.ntmps82
  go_wp2_with fail
  refine (L.out _ ((((Gr.refl _).alloc _).alloc _).alloc _)).mono ?_
  rintro e w' ⟨rfl,rfl⟩
  go_wp2_with (refine wpList_load_row rfl 95 _ rfl w.heap.size rfl 95 D0 (0,0) _ ?hb1 Tryd.underlying95 rfl (by rw [hs.out];exact iD) ?_;(case hb1=>exact first_of_three w _ _ _ _ _ _))
  refine (T3.out _).mono ?_
  rintro e w1 ⟨rfl,G1⟩
  have HR:Hid (∃Z:Array Value,Z.size=41∧w1.heap[w.heap.size+1+1]?=some (.cells Z 95 (0,0))):=⟨_,rfl,(three_blocks G1).2.2⟩
  have HG:Hid (Gr w w1):=((((Gr.refl _).alloc _).alloc _).alloc _).trans G1
  obtain ⟨Z,hz,hR⟩:=HR.out
  have HR2:Hid _:=hR
  clear G1 T3 L HR hR
  go_wp2_with (refine wpList_store_row rfl 95 _ _ rfl (w.heap.size+1+1) D2 rfl rfl 95 Z ?hb2 (by rw [HS.out];exact iD) (by rw [HS.out,hz]) HO.out ?_;(case hb2=>exact HR2.out))
  refine bodyPost_ret (v:=.tuple #[.agg D2,.bool false]) (results_cell_tmp' Tryd.results82 _ _ _ _ _ (0,0) _ _ rfl rfl (srh HR2.out) Tryd.underlying95 rfl (by rw [HS.out];exact iD)) rfl ⟨rfl,?_⟩
  exact gr_setRow HG.out (by omega) _
theorem hold_e (o:d.Ok)(b:Bool)(a:Int):∃X:Array Value,X.size=41∧(dA d).setIfInBounds 33 (.bool b)=X∧X.setIfInBounds 34 (.int .u32 a)=dA (d.setH (d.h.hold b a)):=by
 have o1:Hv.Ok { d.h with held:=b }:=⟨o.h.len,o.h.reg,o.h.pc0,o.h.pc1,o.h.at0,o.h.at1⟩
 exact ⟨_,dA_size (d:={ d with h:={ d.h with held:=b } }) o1,dA_set o.h (by omega) (set_held o.h b),dA_set (d:={ d with h:={ d.h with held:=b } }) o1 (by omega) (set_heldAt o1 a)⟩
structure Bl (w:World) (B:Nat) (D I Z:Array Value):Prop where
 d:w.heap[B]?=some (.cells D 95 (0,0))
 i:w.heap[B+1]?=some (.cells I 23 (0,0))
 z:w.heap[B+1+1]?=some (.cells Z 95 (0,0))
theorem Bl.of (h:Bl w B D I Z)(g:Gr w w'):Bl w' B D I Z:=⟨heap_of_gr g h.d,heap_of_gr g h.i,heap_of_gr g h.z⟩
theorem Bl.cellI (h:Bl w B D I Z)(j:Nat):w.cell? ⟨B+1,j,none⟩=I[j]?:=cr h.i
theorem Bl.cellD (h:Bl w B D I Z)(j:Nat):w.cell? ⟨B,j,none⟩=D[j]?:=cr h.d
theorem Bl.fz (h:Bl w B D I Z)(j:Nat):w.frozen? ⟨B,j,none⟩=false:=frozen_of_row _ _ j _ _ h.d
theorem Bl.set (h:Bl w B D I Z)(j:Nat)(v:Value):Bl (w.setCell ⟨B,j,none⟩ v) B (D.setIfInBounds j v) I Z:=
 ⟨hss h.d,by rw [hso (by simp)];exact h.i,by rw [hso (by simp;omega)];exact h.z⟩
theorem Bl.row (h:Bl w B D I Z)(E:Array Value):Bl (w.setRow B E) B E I Z:=
 ⟨srh h.d,by rw [sro (by omega)];exact h.i,by rw [sro (by omega)];exact h.z⟩
theorem atom_lr {d:Dv}(o:d.Ok){ao:Option Addr}{n cap:Nat}{l:List UInt8}(hm:d.m=.slice ao n cap)(rd r1 r2 im a b:Int){w:World}(M:Mem w ao n l)(hn:n≤140737488351232)(h0:0≤a)(h1:a<4294967296)(hr0:0≤rd)(hr1:rd<32)(ok:ldOk l 13 a=true)(hv0:0≤ldV l 13 a)(hv1:ldV l 13 a<4294967296):
  Calls Tryd.prog 82 #[.agg (dA d),.agg (iA 46 rd r1 r2 im),.int .u32 a,.int .u32 b] w fun e w'=>e=.returned (.tuple #[.agg (dA ((d.setH (d.h.hold true a)).setH ((d.h.hold true a).set rd.toNat (ldV l 13 a)))),.bool true])∧Gr w w':=by
 have L:Hid (∀W:World,Gr w W→Calls Tryd.prog 38 #[.slice ao n cap,.int .i64 13,.int .u32 a] W fun e w'=>e=.returned (.tuple #[.int .u32 (ldV l 13 a),.bool true])∧Gr W w'):=fun W G=>by
  have:=Mr.Load_any cap 13 a (M.of G) hn h0 h1
  rw [ok] at this
  exact this.mono fun e w' h=>⟨h.1,by rw [h.2];exact Gr.refl _⟩
 have o1:(d.setH (d.h.hold true a)).Ok:=o.setH (o.h.hold true h0 h1)
 have T:Hid (∀W:World,Calls Tryd.prog 79 #[.agg (dA (d.setH (d.h.hold true a))),.int .i64 rd,.int .u32 (ldV l 13 a)] W fun e w'=>e=.returned (.agg (dA ((d.setH (d.h.hold true a)).setH ((d.h.hold true a).set rd.toNat (ldV l 13 a)))))∧Gr W w'):=fun W=>set_any o1 rd _ W hr0 hr1 hv0 hv1
 have HS:Hid ((dA ((d.setH (d.h.hold true a)).setH ((d.h.hold true a).set rd.toNat (ldV l 13 a)))).size=41):=dA_size (d:=(d.setH _).setH _) (o1.h.set _ hv0 hv1)
 have HO:Hid ((dA ((d.setH (d.h.hold true a)).setH ((d.h.hold true a).set rd.toNat (ldV l 13 a)))).all (·.oneCell')=true):=one_dA (o1.setH (o1.h.set _ hv0 hv1))
 have g37:(dA d)[37]?=some (.slice ao n cap):=by rw [dA_fld o.h 0];simp [hm]
 have g33:(dA d)[33]?=some (.bool d.h.held):=by rw [dA_get o.h (by omega)];exact hL_fld o.h 1
 have g34:(dA d)[34]?=some (.int .u32 d.h.heldAt):=by rw [dA_get o.h (by omega)];exact hL_fld o.h 2
 have S1:Hid ((dA (d.setH (d.h.hold true a))).size=41):=dA_size o1.h
 obtain ⟨X,sX,e1,e2⟩:=hold_e o true a
 generalize d.h.held=q1 at *
 generalize d.h.heldAt=q2 at *
 generalize ldV l 13 a=y at *
 generalize dA ((d.setH (d.h.hold true a)).setH ((d.h.hold true a).set rd.toNat y))=D2 at *
 generalize dA (d.setH (d.h.hold true a))=D1 at *
 generalize dA d=D0 at *
 clear M hm ok o o1
 unfold iA
 go_enter Tryd.func82,Tryd.ntmps82
 go_wp2_with fail
 refine (L.out _ ((((Gr.refl _).alloc _).alloc _).alloc _)).mono ?_
 rintro e w1 ⟨rfl,G1⟩
 have HZ:Hid (∃Z:Array Value,Z.size=41∧Bl w1 w.heap.size D0 #[.int .i64 46,.int .i64 rd,.int .i64 r1,.int .i64 r2,.int .i32 im] Z):=⟨_,rfl,(three_blocks G1).1,(three_blocks G1).2.1,(three_blocks G1).2.2⟩
 obtain ⟨Z,hz,hb⟩:=HZ.out
 have HG:Hid (Gr w w1):=((((Gr.refl _).alloc _).alloc _).alloc _).trans G1
 have c0:w1.cell? ⟨w.heap.size+1,0,none⟩=some (.int .i64 46):=hb.cellI 0
 have c1:w1.cell? ⟨w.heap.size+1,1,none⟩=some (.int .i64 rd):=hb.cellI 1
 have c33:w1.cell? ⟨w.heap.size,33,none⟩=some (.bool q1):=(hb.cellD 33).trans g33
 have c34:w1.cell? ⟨w.heap.size,34,none⟩=some (.int .u32 q2):=(hb.cellD 34).trans g34
 have fz:=hb.fz
 have HB:Hid (Bl ((w1.setCell ⟨w.heap.size,33,none⟩ (.bool true)).setCell ⟨w.heap.size,34,none⟩ (.int .u32 a)) w.heap.size D1 #[.int .i64 46,.int .i64 rd,.int .i64 r1,.int .i64 r2,.int .i32 im] Z):=by
  have:=(hb.set 33 (.bool true)).set 34 (.int .u32 a)
  rw [e1,e2] at this
  exact this
 have HG2:Hid (Gr w ((w1.setCell ⟨w.heap.size,33,none⟩ (.bool true)).setCell ⟨w.heap.size,34,none⟩ (.int .u32 a))):=(HG.out.setCell (Nat.le_refl _) _).setCell (Nat.le_refl _) _
 clear G1 L hb HZ e1 e2 sX g33 g34 g37
 go_wp2_with (refine wpList_load_row rfl 95 _ rfl w.heap.size rfl 95 D1 (0,0) _ ?hb1 Tryd.underlying95 rfl (by rw [S1.out];exact iD) ?_;(case hb1=>exact HB.out.d))
 refine (T.out _).mono ?_
 rintro e w2 ⟨rfl,G2⟩
 have HG3:Hid (Gr w w2):=HG2.out.trans G2
 have HR:Hid (w2.heap[w.heap.size+1+1]?=some (.cells Z 95 (0,0))):=(HB.out.of G2).z
 clear G2 T HG2 HG HB c0 c1 c33 c34 fz
 go_wp2_with (refine wpList_store_row rfl 95 _ _ rfl (w.heap.size+1+1) D2 rfl rfl 95 Z ?hb2 (by rw [HS.out];exact iD) (by rw [HS.out,hz]) HO.out ?_;(case hb2=>exact HR.out))
 refine bodyPost_ret (v:=.tuple #[.agg D2,.bool true]) (results_cell_tmp' Tryd.results82 _ _ _ _ _ (0,0) _ _ rfl rfl (setRow_heap _ _ _ _ _ (0,0) HR.out) Tryd.underlying95 rfl (by rw [HS.out];exact iD)) rfl ⟨rfl,?_⟩
 exact gr_setRow HG3.out (by omega) _
theorem atom_sc_no {d:Dv}(o:d.Ok){ao:Option Addr}{n cap:Nat}{l:List UInt8}(hm:d.m=.slice ao n cap)(rd r1 r2 im a b:Int){w:World}(M:Mem w ao n l)(hn:n≤140737488351232)(h0:0≤a)(h1:a<4294967296)(hr0:0≤rd)(hr1:rd<32)(ok:ldOk l 13 a=true)(hmine:¬(d.h.held=true∧d.h.heldAt=a)):
  Calls Tryd.prog 82 #[.agg (dA d),.agg (iA 47 rd r1 r2 im),.int .u32 a,.int .u32 b] w fun e w'=>e=.returned (.tuple #[.agg (dA ((d.setH (d.h.hold false 0)).setH ((d.h.hold false 0).set rd.toNat 1))),.bool true])∧Gr w w':=by
 have L:Hid (∀W:World,Gr w W→Calls Tryd.prog 38 #[.slice ao n cap,.int .i64 13,.int .u32 a] W fun e w'=>e=.returned (.tuple #[.int .u32 (ldV l 13 a),.bool true])∧Gr W w'):=fun W G=>by
  have:=Mr.Load_any cap 13 a (M.of G) hn h0 h1
  rw [ok] at this
  exact this.mono fun e w' h=>⟨h.1,by rw [h.2];exact Gr.refl _⟩
 have o1:(d.setH (d.h.hold false 0)).Ok:=o.setH (o.h.hold false (x:=0) (by omega) (by omega))
 have T:Hid (∀W:World,Calls Tryd.prog 79 #[.agg (dA (d.setH (d.h.hold false 0))),.int .i64 rd,.int .u32 1] W fun e w'=>e=.returned (.agg (dA ((d.setH (d.h.hold false 0)).setH ((d.h.hold false 0).set rd.toNat 1))))∧Gr W w'):=fun W=>set_any o1 rd 1 W hr0 hr1 (by omega) (by omega)
 have HS:Hid ((dA ((d.setH (d.h.hold false 0)).setH ((d.h.hold false 0).set rd.toNat 1))).size=41):=dA_size (d:=(d.setH _).setH _) (o1.h.set _ (x:=1) (by omega) (by omega))
 have HO:Hid ((dA ((d.setH (d.h.hold false 0)).setH ((d.h.hold false 0).set rd.toNat 1))).all (·.oneCell')=true):=one_dA (o1.setH (o1.h.set _ (x:=1) (by omega) (by omega)))
 have g37:(dA d)[37]?=some (.slice ao n cap):=by rw [dA_fld o.h 0];simp [hm]
 have g33:(dA d)[33]?=some (.bool d.h.held):=by rw [dA_get o.h (by omega)];exact hL_fld o.h 1
 have g34:(dA d)[34]?=some (.int .u32 d.h.heldAt):=by rw [dA_get o.h (by omega)];exact hL_fld o.h 2
 have S1:Hid ((dA (d.setH (d.h.hold false 0))).size=41):=dA_size o1.h
 obtain ⟨X,sX,e1,e2⟩:=hold_e o false 0
 generalize d.h.held=q1 at *
 generalize d.h.heldAt=q2 at *
 generalize ldV l 13 a=y at *
 generalize dA ((d.setH (d.h.hold false 0)).setH ((d.h.hold false 0).set rd.toNat 1))=D2 at *
 generalize dA (d.setH (d.h.hold false 0))=D1 at *
 generalize dA d=D0 at *
 clear M hm ok o o1
 unfold iA
 cases q1 with
 | false=>
  clear hmine
  go_enter Tryd.func82,Tryd.ntmps82
  go_wp2_with fail
  refine (L.out _ ((((Gr.refl _).alloc _).alloc _).alloc _)).mono ?_
  rintro e w1 ⟨rfl,G1⟩
  have HZ:Hid (∃Z:Array Value,Z.size=41∧Bl w1 w.heap.size D0 #[.int .i64 47,.int .i64 rd,.int .i64 r1,.int .i64 r2,.int .i32 im] Z):=⟨_,rfl,(three_blocks G1).1,(three_blocks G1).2.1,(three_blocks G1).2.2⟩
  obtain ⟨Z,hz,hb⟩:=HZ.out
  have HG:Hid (Gr w w1):=((((Gr.refl _).alloc _).alloc _).alloc _).trans G1
  have c0:w1.cell? ⟨w.heap.size+1,0,none⟩=some (.int .i64 47):=hb.cellI 0
  have c1:w1.cell? ⟨w.heap.size+1,1,none⟩=some (.int .i64 rd):=hb.cellI 1
  have c33:w1.cell? ⟨w.heap.size,33,none⟩=some (.bool false):=(hb.cellD 33).trans g33
  have c34:w1.cell? ⟨w.heap.size,34,none⟩=some (.int .u32 q2):=(hb.cellD 34).trans g34
  have fz:=hb.fz
  have HB:Hid (Bl ((w1.setCell ⟨w.heap.size,33,none⟩ (.bool false)).setCell ⟨w.heap.size,34,none⟩ (.int .u32 0)) w.heap.size D1 #[.int .i64 47,.int .i64 rd,.int .i64 r1,.int .i64 r2,.int .i32 im] Z):=by
   have:=(hb.set 33 (.bool false)).set 34 (.int .u32 0)
   rw [e1,e2] at this
   exact this
  have HG2:Hid (Gr w ((w1.setCell ⟨w.heap.size,33,none⟩ (.bool false)).setCell ⟨w.heap.size,34,none⟩ (.int .u32 0))):=(HG.out.setCell (Nat.le_refl _) _).setCell (Nat.le_refl _) _
  clear G1 L hb HZ e1 e2 sX g33 g34 g37
  go_wp2_with (refine wpList_load_row rfl 95 _ rfl w.heap.size rfl 95 D1 (0,0) _ ?hb1 Tryd.underlying95 rfl (by rw [S1.out];exact iD) ?_;(case hb1=>exact HB.out.d))
  refine (T.out _).mono ?_
  rintro e w2 ⟨rfl,G2⟩
  have HG3:Hid (Gr w w2):=HG2.out.trans G2
  have HR:Hid (w2.heap[w.heap.size+1+1]?=some (.cells Z 95 (0,0))):=(HB.out.of G2).z
  clear G2 T HG2 HG HB c0 c1 c33 c34 fz
  go_wp2_with (refine wpList_store_row rfl 95 _ _ rfl (w.heap.size+1+1) D2 rfl rfl 95 Z ?hb2 (by rw [HS.out];exact iD) (by rw [HS.out,hz]) HO.out ?_;(case hb2=>exact HR.out))
  refine bodyPost_ret (v:=.tuple #[.agg D2,.bool true]) (results_cell_tmp' Tryd.results82 _ _ _ _ _ (0,0) _ _ rfl rfl (setRow_heap _ _ _ _ _ (0,0) HR.out) Tryd.underlying95 rfl (by rw [HS.out];exact iD)) rfl ⟨rfl,?_⟩
  exact gr_setRow HG3.out (by omega) _
 | true=>
  have hne:(q2 == a)=false:=by simp at hmine;simp [hmine]
  clear hmine
  go_enter Tryd.func82,Tryd.ntmps82
  go_wp2_with fail
  refine (L.out _ ((((Gr.refl _).alloc _).alloc _).alloc _)).mono ?_
  rintro e w1 ⟨rfl,G1⟩
  have HZ:Hid (∃Z:Array Value,Z.size=41∧Bl w1 w.heap.size D0 #[.int .i64 47,.int .i64 rd,.int .i64 r1,.int .i64 r2,.int .i32 im] Z):=⟨_,rfl,(three_blocks G1).1,(three_blocks G1).2.1,(three_blocks G1).2.2⟩
  obtain ⟨Z,hz,hb⟩:=HZ.out
  have HG:Hid (Gr w w1):=((((Gr.refl _).alloc _).alloc _).alloc _).trans G1
  have c0:w1.cell? ⟨w.heap.size+1,0,none⟩=some (.int .i64 47):=hb.cellI 0
  have c1:w1.cell? ⟨w.heap.size+1,1,none⟩=some (.int .i64 rd):=hb.cellI 1
  have c33:w1.cell? ⟨w.heap.size,33,none⟩=some (.bool true):=(hb.cellD 33).trans g33
  have c34:w1.cell? ⟨w.heap.size,34,none⟩=some (.int .u32 q2):=(hb.cellD 34).trans g34
  have fz:=hb.fz
  have HB:Hid (Bl ((w1.setCell ⟨w.heap.size,33,none⟩ (.bool false)).setCell ⟨w.heap.size,34,none⟩ (.int .u32 0)) w.heap.size D1 #[.int .i64 47,.int .i64 rd,.int .i64 r1,.int .i64 r2,.int .i32 im] Z):=by
   have:=(hb.set 33 (.bool false)).set 34 (.int .u32 0)
   rw [e1,e2] at this
   exact this
  have HG2:Hid (Gr w ((w1.setCell ⟨w.heap.size,33,none⟩ (.bool false)).setCell ⟨w.heap.size,34,none⟩ (.int .u32 0))):=(HG.out.setCell (Nat.le_refl _) _).setCell (Nat.le_refl _) _
  clear G1 L hb HZ e1 e2 sX g33 g34 g37
  go_wp2_with (refine wpList_load_row rfl 95 _ rfl w.heap.size rfl 95 D1 (0,0) _ ?hb1 Tryd.underlying95 rfl (by rw [S1.out];exact iD) ?_;(case hb1=>exact HB.out.d))
  refine (T.out _).mono ?_
  rintro e w2 ⟨rfl,G2⟩
  have HG3:Hid (Gr w w2):=HG2.out.trans G2
  have HR:Hid (w2.heap[w.heap.size+1+1]?=some (.cells Z 95 (0,0))):=(HB.out.of G2).z
  clear G2 T HG2 HG HB c0 c1 c33 c34 fz
  go_wp2_with (refine wpList_store_row rfl 95 _ _ rfl (w.heap.size+1+1) D2 rfl rfl 95 Z ?hb2 (by rw [HS.out];exact iD) (by rw [HS.out,hz]) HO.out ?_;(case hb2=>exact HR.out))
  refine bodyPost_ret (v:=.tuple #[.agg D2,.bool true]) (results_cell_tmp' Tryd.results82 _ _ _ _ _ (0,0) _ _ rfl rfl (setRow_heap _ _ _ _ _ (0,0) HR.out) Tryd.underlying95 rfl (by rw [HS.out];exact iD)) rfl ⟨rfl,?_⟩
  exact gr_setRow HG3.out (by omega) _
end Go.Proofs.YtkdghgiajifbdaaDoor.Hr
