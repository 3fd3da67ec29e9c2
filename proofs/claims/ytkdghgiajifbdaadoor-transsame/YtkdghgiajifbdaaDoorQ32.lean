/-
  TsW, TsA, To, Tc: texts of ours that lie in one file.
-/
import Derived.Test.YtkdghgiajifbdaaDoorQ27
import Derived.Test.YtkdghgiajifbdaaDoorQ28
import Derived.Test.YtkdghgiajifbdaaDoorQ29
import Derived.Test.YtkdghgiajifbdaaDoorQ31
import Derived.Test.YtkdghgiajifbdaaDoorQ01
import Derived.ProofKit
import Derived.SizedLaws
import Derived.Deep.Slices
import Derived.Test.YtkdghgiajifbdaaDoorQ09
import Derived.Test.YtkdghgiajifbdaaDoorQ15
import Derived.Test.YtkdghgiajifbdaaDoorQ03
import Derived.Laws.OwnMore
set_option linter.unusedVariables false
set_option linter.unusedSimpArgs false
set_option maxHeartbeats 8000000
set_option maxRecDepth 100000
namespace Go.Proofs.YtkdghgiajifbdaaDoor.Ts
open Go.ChangeShapes Go.WideShapes Go.ChangeAt Go.RowKit Mm Hc Mi Bk
open Hh hiding Rn

theorem dr_eqv {w:World}{r s:Mi.Rn}{M O S:Value}(D:Dr w r M O S)(e:Eqv r s)(ok:s.Ok):Dr w s M O S:=by
 obtain ⟨_,hm,ho,hs⟩:=D
 rw [e.m] at hm
 rw [e.out] at ho
 rw [e.sto] at hs
 exact ⟨ok,hm,ho,hs⟩
theorem dr_up {w w':World}{r:Mi.Rn}{M O S:Value}(D:Dr w r M O S)(G:Gr w w'):Dr w' r M O S:=by
 obtain ⟨o,⟨ao,c,e,m⟩,⟨b,ho⟩,⟨b2,hs⟩⟩:=D
 exact ⟨o,⟨ao,c,e,m.of G⟩,⟨b,owns_gr ho G⟩,⟨b2,owns_gr hs G⟩⟩
theorem oneD (h:Hv)(M O S:Value)(n:Int)(h1:M.oneCell'=true)(h2:O.oneCell'=true)(h3:S.oneCell'=true):(gA h M O n S).all (·.oneCell')=true:=by
 refine all_oneCell_toArray ?_
 intro v hv
 simp only [gL,hL,List.mem_append,List.mem_map,List.mem_cons,List.not_mem_nil,or_false] at hv
 rcases hv with (⟨n,_,rfl⟩|rfl|rfl|rfl|rfl|rfl)|rfl|rfl|rfl|rfl<;>first|rfl|assumption
theorem dr_one {w:World}{r:Mi.Rn}{M O S:Value}(D:Dr w r M O S):(gA r.h M O r.n S).all (·.oneCell')=true:=by
 obtain ⟨_,⟨ma,mc,rfl,_⟩,⟨ob,oo⟩,⟨sb,so⟩⟩:=D
 obtain ⟨oa,oc,rfl⟩:=owns_word oo
 obtain ⟨sa,sc,rfl⟩:=owns_word so
 exact oneD _ _ _ _ _ rfl rfl rfl
theorem RMake_any {w:World}{ao:Option Addr}{n:Nat}(cap:Nat){l:List UInt8}(pc:Int)(M:Mem w ao n l)(hn:n≤140737488351232)(h0:0≤pc)(h1:pc<4294967296):
  Calls Tryd.prog 17 #[.slice ao n cap,.int .u32 pc] w fun e w'=>∃sa sc,e=.returned (.agg #[.int .u32 (bkP n pc),.slice sa (bkX n l pc).length sc])∧w'.ownsRow w.heap.size 23 5 (.slice sa (bkX n l pc).length sc) (bkX n l pc).length (blC (bkX n l pc))∧Gr w w':=by
 by_cases h:n≤4096
 ·refine (RMake_yes cap pc M h h0 h1).mono ?_
  rintro e w' ⟨v,rfl,O,G⟩
  obtain ⟨sa,sc,rfl⟩:=owns_word O
  exact ⟨sa,sc,rfl,O,G⟩
 ·refine (RMake_no ao cap l pc (by omega) hn).mono ?_
  rintro e w' ⟨v,rfl,O,G⟩
  obtain ⟨sa,sc,rfl⟩:=owns_word O
  exact ⟨sa,sc,rfl,O,G⟩
theorem tsame_out {w:World}{h:Hv}(o:h.Ok){ao:Option Addr}{n:Nat}(cap:Nat){l:List UInt8}(M:Mem w ao n l)(hn:n≤140737488351232)(steps:Int)(hno:¬(may h=true∧h.state=0∧n≤4096∧0≤steps∧steps≤400∧0<(bkX n l h.pc).length)):
  Calls Tryd.prog 6 #[.agg (hA h),.slice ao n cap,.int .i64 steps] w fun e w'=>e=.returned (.bool true)∧Gr w w':=by
 have Mk:Hid (∀W:World,Gr w W→Calls Tryd.prog 17 #[.slice ao n cap,.int .u32 h.pc] W fun e w'=>∃sa sc,e=.returned (.agg #[.int .u32 (bkP n h.pc),.slice sa (bkX n l h.pc).length sc])∧w'.ownsRow W.heap.size 23 5 (.slice sa (bkX n l h.pc).length sc) (bkX n l h.pc).length (blC (bkX n l h.pc))∧Gr W w'):=fun W G=>RMake_any cap h.pc (M.of G) hn o.pc0 o.pc1
 have M4:Hid (∀W:World,Calls Tryd.prog 18 #[.agg (hA h)] W fun e w'=>e=.returned (.bool (may h))∧Gr W w'):=fun W=>rmay_any o W
 have HS:Hid ((hA h).size=37):=hA_size o
 have h32:(hA h)[32]?=some (.int .u32 h.pc):=by unfold hA;rw [List.getElem?_toArray];exact hL_fld o 0
 have g35:(hA h)[35]?=some (.int .i64 h.state):=(may_get h o).2.2.2.1
 generalize bkP n h.pc=P at *
 generalize hxs:(bkX n l h.pc).length=cnt at *
 generalize blC (bkX n l h.pc)=X at *
 clear hxs
 generalize hA h=H0 at *
 generalize may h=B at *
 generalize h.state=st at *
 generalize h.pc=pc at *
 clear M o
 have hc:B=false∨(B=true∧(st != 0)=true)∨(B=true∧(st != 0)=false∧4096<n)∨(B=true∧(st != 0)=false∧n≤4096∧steps<0)∨(B=true∧(st != 0)=false∧n≤4096∧0≤steps∧400<steps)∨(B=true∧(st != 0)=false∧n≤4096∧0≤steps∧steps≤400∧cnt=0):=by
  cases B with
  | false=>exact .inl rfl
  | true=>
   by_cases h1:st=0
   ·by_cases h2:n≤4096
    ·by_cases h3:0≤steps
     ·by_cases h4:steps≤400
      ·have h5:cnt=0:=by
        by_cases h5:0<cnt
        ·exact absurd ⟨rfl,h1,h2,h3,h4,h5⟩ hno
        ·omega
       exact .inr (.inr (.inr (.inr (.inr ⟨rfl,by simp [h1],h2,h3,h4,h5⟩))))
      ·exact .inr (.inr (.inr (.inr (.inl ⟨rfl,by simp [h1],h2,h3,by omega⟩))))
     ·exact .inr (.inr (.inr (.inl ⟨rfl,by simp [h1],h2,by omega⟩)))
    ·exact .inr (.inr (.inl ⟨rfl,by simp [h1],by omega⟩))
   ·exact .inr (.inl ⟨rfl,by simp [h1]⟩)
 clear hno
 rcases hc with rfl|⟨rfl,bs⟩|⟨rfl,bs,h2⟩|⟨rfl,bs,h2,h3⟩|⟨rfl,bs,h2,h3,h4⟩|⟨rfl,bs,h2,h3,h4,rfl⟩
 all_goals
  have k32:(w.alloc (.cells H0 43)).cell? ⟨w.heap.size,32,none⟩=some (.int .u32 pc):=(cell_of_row _ _ _ _ _ _ (heap_alloc_new w _)).trans h32
  go_enter Tryd.func6,Tryd.ntmps6
  go_wp2_with fail
  refine (Mk.out _ ((Gr.refl _).alloc _)).mono ?_
  rintro e w1 ⟨sa,sc,rfl,_,G1⟩
  have HB1:Hid (w1.heap[w.heap.size]?=some (.cells H0 43 (0,0))):=heap_up G1 (heap_alloc_new w _)
  have HG1:Hid (Gr w w1):=((Gr.refl _).alloc _).trans G1
  clear G1 Mk k32
  go_wp2_with (refine wpList_load_row rfl 43 _ rfl w.heap.size rfl 43 H0 (0,0) _ ?a1 Tryd.underlying43 rfl (by rw [HS.out];exact iHa) ?_;(case a1=>exact heap_up ((Gr.refl _).alloc _) HB1.out))
  refine (M4.out _).mono ?_
  rintro e w2 ⟨rfl,G2⟩
  have k35:w2.cell? ⟨w.heap.size,35,none⟩=some (.int .i64 st):=(cell_of_row _ _ _ _ _ _ (heap_up G2 (heap_up ((Gr.refl _).alloc _) HB1.out))).trans g35
  have HV:Hid (w2.heap[w1.heap.size]?=some (.cells #[.int .u32 P,.slice sa _ sc] 34 (0,0))):=heap_up G2 (heap_alloc_new w1 _)
  have v1:=(cell_of_row _ _ 1 _ _ _ HV.out)
  have HG2:Hid (Gr w w2):=(HG1.out.alloc _).trans G2
  clear G2 M4 HB1
  simp at v1
  go_wp2_with fail
  go_ret
  exact ⟨rfl,HG2.out⟩
theorem tsame_yes {w:World}{H0:Array Value}{pc steps:Int}{ao:Option Addr}{n cap cnt:Nat}{X:List Value}{code:List Mv}{r:Mi.Rn}
  (HS0:H0.size=37)(h32:H0[32]?=some (.int .u32 pc))(g35:H0[35]?=some (.int .i64 0))(hpc:Hh.W pc)(hn:n≤4096)(s0:0≤steps)(s1:steps≤400)(hc0:0<cnt)(hc1:cnt≤16)
  (Mk0:∀W:World,Gr w W→Calls Tryd.prog 17 #[.slice ao n cap,.int .u32 pc] W fun e w'=>∃sa sc,e=.returned (.agg #[.int .u32 pc,.slice sa cnt sc])∧w'.ownsRow W.heap.size 23 5 (.slice sa cnt sc) cnt X∧Gr W w')
  (M40:∀W:World,Calls Tryd.prog 18 #[.agg H0] W fun e w'=>e=.returned (.bool true)∧Gr W w')
  (TM0:∀(W:World) (b:Nat) (sa:Option Addr) (sc:Nat),Gr w W→W.ownsRow b 23 5 (.slice sa cnt sc) cnt X→Calls Tryd.prog 15 #[.agg #[.int .u32 pc,.slice sa cnt sc]] W fun e w'=>∃ca cn cc,e=.returned (.slice ca cn cc)∧Cs w' ca cn code∧Gr W w')
  (M70:∀(W:World) (ca:Option Addr) (cn cc:Nat),Cs W ca cn code→Calls Tryd.prog 16 #[.slice ca cn cc] W fun e w'=>e=.returned (.bool true)∧Gr W w')
  (Pl0:∀(W:World) (ca:Option Addr) (cn cc:Nat),Gr w W→Cs W ca cn code→Calls Tryd.prog 19 #[.slice ca cn cc,.agg H0,.slice ao n cap,.agg #[.int .u32 pc,.int .u32 (Wd.lo (pc+4*(cnt:Int)))],.int .i64 steps] W fun e w'=>∃M O S,e=.returned (.agg (gA r.h M O r.n S))∧Dr w' r M O S∧Gr W w')
  (St0:∀(W:World) (sa:Option Addr) (sc:Nat),Gr w W→Calls Tryd.prog 20 #[.agg #[.int .u32 pc,.slice sa cnt sc],.agg H0,.slice ao n cap,.int .i64 steps] W fun e w'=>∃M O S,e=.returned (.agg (gA r.h M O r.n S))∧Dr w' r M O S∧Gr W w')
  (rok:r.Ok)(ro:r.out.length≤1000000)(rs:r.sto.length≤1000000):
  Calls Tryd.prog 6 #[.agg H0,.slice ao n cap,.int .i64 steps] w fun e w'=>e=.returned (.bool true)∧Gr w w':=by
 have Mk:Hid (∀W:World,Gr w W→Calls Tryd.prog 17 #[.slice ao n cap,.int .u32 pc] W fun e w'=>∃sa sc,e=.returned (.agg #[.int .u32 pc,.slice sa cnt sc])∧w'.ownsRow W.heap.size 23 5 (.slice sa cnt sc) cnt X∧Gr W w'):=Mk0
 have M4:Hid (∀W:World,Calls Tryd.prog 18 #[.agg H0] W fun e w'=>e=.returned (.bool true)∧Gr W w'):=M40
 have TM:Hid (∀(W:World) (b:Nat) (sa:Option Addr) (sc:Nat),Gr w W→W.ownsRow b 23 5 (.slice sa cnt sc) cnt X→Calls Tryd.prog 15 #[.agg #[.int .u32 pc,.slice sa cnt sc]] W fun e w'=>∃ca cn cc,e=.returned (.slice ca cn cc)∧Cs w' ca cn code∧Gr W w'):=TM0
 have M7:Hid (∀(W:World) (ca:Option Addr) (cn cc:Nat),Cs W ca cn code→Calls Tryd.prog 16 #[.slice ca cn cc] W fun e w'=>e=.returned (.bool true)∧Gr W w'):=M70
 have hlast:IntKind.u32.wrap (pc+IntKind.u32.wrap (4*(cnt:Int)))=Wd.lo (pc+4*(cnt:Int)):=by
  rw [IntKind.wrap_u32,IntKind.wrap_u32]
  unfold Wd.lo
  omega
 have Pl:Hid (∀(W:World) (ca:Option Addr) (cn cc:Nat),Gr w W→Cs W ca cn code→Calls Tryd.prog 19 #[.slice ca cn cc,.agg H0,.slice ao n cap,.agg #[.int .u32 pc,.int .u32 (Wd.lo (pc+4*(cnt:Int)))],.int .i64 steps] W fun e w'=>∃M O S,e=.returned (.agg (gA r.h M O r.n S))∧Dr w' r M O S∧Gr W w'):=Pl0
 have Sp:Hid (∀(W:World) (sa:Option Addr) (sc:Nat),Gr w W→Calls Tryd.prog 20 #[.agg #[.int .u32 pc,.slice sa cnt sc],.agg H0,.slice ao n cap,.int .i64 steps] W fun e w'=>∃M O S,e=.returned (.agg (gA r.h M O r.n S))∧Dr w' r M O S∧Gr W w'):=St0
 have Sm:Hid (∀(W:World) (M O S M2 O2 S2:Value),Dr W r M O S→Dr W r M2 O2 S2→Calls Tryd.prog 21 #[.agg (gA r.h M O r.n S),.agg (gA r.h M2 O2 r.n S2)] W fun e w'=>e=.returned (.bool true)∧Gr W w'):=fun W M O S M2 O2 S2 D1 D2=>Same_same D1 D2 ro rs
 have HGs:Hid (∀M O S,(gA r.h M O r.n S).size=41):=fun M O S=>gA_size rok.h _ _ _ _
 have HGo:Hid (∀(W:World) (M O S:Value),Dr W r M O S→(gA r.h M O r.n S).all (·.oneCell')=true):=fun W M O S D=>dr_one D
 have HS:Hid (H0.size=37):=HS0
 clear Mk0 M40 TM0 M70 Pl0 St0 rok ro rs HS0
 have d1:decide (4096<(n:Int))=false:=decide_eq_false (by omega)
 have d2:decide (steps<0)=false:=decide_eq_false (by omega)
 have d3:decide (400<steps)=false:=decide_eq_false (by omega)
 have d4:((cnt:Int) == 0)=false:=by simp;omega
 have k32:(w.alloc (.cells H0 43)).cell? ⟨w.heap.size,32,none⟩=some (.int .u32 pc):=(cell_of_row _ _ _ _ _ _ (heap_alloc_new w _)).trans h32
 go_enter Tryd.func6,Tryd.ntmps6
 go_wp2_with fail
 refine (Mk.out _ ((Gr.refl _).alloc _)).mono ?_
 rintro e w1 ⟨sa,sc,rfl,O1,G1⟩
 have HB1:Hid (w1.heap[w.heap.size]?=some (.cells H0 43 (0,0))):=heap_up G1 (heap_alloc_new w _)
 have HG1:Hid (Gr w w1):=((Gr.refl _).alloc _).trans G1
 have HO1:Hid (∀W:World,Gr w1 W→W.ownsRow (w.alloc (.cells H0 43)).heap.size 23 5 (.slice sa cnt sc) cnt X):=fun W G=>owns_gr O1 G
 clear G1 Mk k32 O1
 go_wp2_with (refine wpList_load_row rfl 43 _ rfl w.heap.size rfl 43 H0 (0,0) _ ?a1 Tryd.underlying43 rfl (by rw [HS.out];exact iHa) ?_;(case a1=>exact heap_up ((Gr.refl _).alloc _) HB1.out))
 refine (M4.out _).mono ?_
 rintro e w2 ⟨rfl,G2⟩
 have HB2:Hid (w2.heap[w.heap.size]?=some (.cells H0 43 (0,0))):=heap_up G2 (heap_up ((Gr.refl _).alloc _) HB1.out)
 have k35:w2.cell? ⟨w.heap.size,35,none⟩=some (.int .i64 0):=(cell_of_row _ _ _ _ _ _ HB2.out).trans g35
 have HV2:Hid (w2.heap[w1.heap.size]?=some (.cells #[.int .u32 pc,.slice sa cnt sc] 34 (0,0))):=heap_up G2 (heap_alloc_new w1 _)
 have v0:w2.cell? ⟨w1.heap.size,0,none⟩=some (.int .u32 pc):=cell_of_row _ _ _ _ _ _ HV2.out
 have v1:w2.cell? ⟨w1.heap.size,1,none⟩=some (.slice sa cnt sc):=cell_of_row _ _ _ _ _ _ HV2.out
 have HG2:Hid (Gr w w2):=(HG1.out.alloc _).trans G2
 have HO2:Hid (w2.ownsRow (w.alloc (.cells H0 43)).heap.size 23 5 (.slice sa cnt sc) cnt X):=HO1.out _ (((Gr.refl _).alloc _).trans G2)
 clear G2 M4 HB1 HO1 HG1
 go_wp2_with fail
 refine (TM.out _ _ sa sc HG2.out HO2.out).mono ?_
 rintro e w3 ⟨ca,cn,cc,rfl,C3,G3⟩
 have HB3:Hid (w3.heap[w.heap.size]?=some (.cells H0 43 (0,0))):=heap_up G3 HB2.out
 have HV3:Hid (w3.heap[w1.heap.size]?=some (.cells #[.int .u32 pc,.slice sa cnt sc] 34 (0,0))):=heap_up G3 HV2.out
 have HC3:Hid (Cs w3 ca cn code):=C3
 have HG3:Hid (Gr w w3):=HG2.out.trans G3
 clear G3 C3 TM HB2 HV2 HO2 v0 v1 k35 HG2
 go_wp2_with fail
 refine (M7.out _ ca cn cc HC3.out).mono ?_
 rintro e w4 ⟨rfl,G4⟩
 have HB4:Hid (w4.heap[w.heap.size]?=some (.cells H0 43 (0,0))):=heap_up G4 HB3.out
 have HV4:Hid (w4.heap[w1.heap.size]?=some (.cells #[.int .u32 pc,.slice sa cnt sc] 34 (0,0))):=heap_up G4 HV3.out
 have HC4:Hid (∀W:World,Gr w4 W→Cs W ca cn code):=fun W G=>(HC3.out.of G4).of G
 have HG4:Hid (Gr w w4):=HG3.out.trans G4
 have v0:w4.cell? ⟨w1.heap.size,0,none⟩=some (.int .u32 pc):=cell_of_row _ _ _ _ _ _ HV4.out
 have v1:w4.cell? ⟨w1.heap.size,1,none⟩=some (.slice sa cnt sc):=cell_of_row _ _ _ _ _ _ HV4.out
 clear G4 M7 HB3 HV3 HC3 HG3
 go_wp2_with (refine wpList_load_row rfl 43 _ rfl w.heap.size rfl 43 H0 (0,0) _ ?a5 Tryd.underlying43 rfl (by rw [HS.out];exact iHa) ?_;(case a5=>exact heap_up (by repeat (first|exact Gr.refl w4|refine Gr.alloc ?_ _)) HB4.out))
 refine (Pl.out _ ca cn cc (by repeat (first|exact HG4.out|refine Gr.alloc ?_ _)) (HC4.out _ (by repeat (first|exact Gr.refl w4|refine Gr.alloc ?_ _)))).mono ?_
 rintro e w5 ⟨M5,O5,S5,rfl,D5,G5⟩
 have HB5:Hid (w5.heap[w.heap.size]?=some (.cells H0 43 (0,0))):=heap_up G5 (heap_up (by repeat (first|exact Gr.refl w4|refine Gr.alloc ?_ _)) HB4.out)
 have HV5:Hid (w5.heap[w1.heap.size]?=some (.cells #[.int .u32 pc,.slice sa cnt sc] 34 (0,0))):=heap_up G5 (heap_up (by repeat (first|exact Gr.refl w4|refine Gr.alloc ?_ _)) HV4.out)
 have HG5:Hid (Gr w w5):=Gr.trans (by repeat (first|exact HG4.out|refine Gr.alloc ?_ _)) G5
 have HDr:Hid (Dr w5 r M5 O5 S5):=D5
 have HD:Hid ((gA r.h M5 O5 r.n S5).size=41):=HGs.out _ _ _
 have HO:Hid ((gA r.h M5 O5 r.n S5).all (·.oneCell')=true):=HGo.out _ _ _ _ D5
 have Sm5:Hid (∀(W:World) (M2 O2 S2:Value),Dr W r M5 O5 S5→Dr W r M2 O2 S2→Calls Tryd.prog 21 #[.agg (gA r.h M5 O5 r.n S5),.agg (gA r.h M2 O2 r.n S2)] W fun e w'=>e=.returned (.bool true)∧Gr W w'):=fun W M2 O2 S2=>Sm.out W M5 O5 S5 M2 O2 S2
 generalize gA r.h M5 O5 r.n S5=D0 at *
 have HX:Hid (∀Y:Array Value,Gr w5 ((w5.alloc (.cells Y 50)).setRow w5.heap.size D0)):=fun Y=>gr_setRow ((Gr.refl _).alloc _) (Nat.le_refl _) _
 have HX1:Hid (∀Y:Array Value,((w5.alloc (.cells Y 50)).setRow w5.heap.size D0).heap[w5.heap.size]?=some (.cells D0 50 (0,0))):=fun Y=>setRow_heap _ _ _ _ _ (0,0) (heap_alloc_new w5 _)
 have v0:∀Y:Array Value,((w5.alloc (.cells Y 50)).setRow w5.heap.size D0).cell? ⟨w1.heap.size,0,none⟩=some (.int .u32 pc):=fun Y=>cell_of_row _ _ _ _ _ _ (heap_up (HX.out Y) HV5.out)
 have v1:∀Y:Array Value,((w5.alloc (.cells Y 50)).setRow w5.heap.size D0).cell? ⟨w1.heap.size,1,none⟩=some (.slice sa cnt sc):=fun Y=>cell_of_row _ _ _ _ _ _ (heap_up (HX.out Y) HV5.out)
 clear G5 Pl D5 Sm HB4 HV4 HC4 HG4 hlast
 go_wp2_with (first
  | (refine wpList_store_row rfl 50 _ _ rfl w5.heap.size D0 rfl rfl 50 _ (heap_alloc_new w5 _) (by rw [HD.out];exact iDidA) (by rw [HD.out];rfl) HO.out ?_)
  | (refine wpList_load_row rfl 43 _ rfl w.heap.size rfl 43 H0 (0,0) _ ?a6 Tryd.underlying43 rfl (by rw [HS.out];exact iHa) ?_;(case a6=>exact heap_up (HX.out _) HB5.out)))
 refine (Sp.out _ sa sc (HG5.out.trans (HX.out _))).mono ?_
 rintro e w6 ⟨M6,O6,S6,rfl,D6,G6⟩
 have HD6:Hid (w6.heap[w5.heap.size]?=some (.cells D0 50 (0,0))):=heap_up G6 (HX1.out _)
 have HG6:Hid (Gr w w6):=(HG5.out.trans (HX.out _)).trans G6
 have HDr6:Hid (Dr w6 r M5 O5 S5):=dr_up HDr.out ((HX.out _).trans G6)
 have HDx:Hid (Dr w6 r M6 O6 S6):=D6
 have HE:Hid ((gA r.h M6 O6 r.n S6).size=41):=HGs.out _ _ _
 have HEo:Hid ((gA r.h M6 O6 r.n S6).all (·.oneCell')=true):=HGo.out _ _ _ _ D6
 have Sm6:Hid (∀W:World,Dr W r M5 O5 S5→Dr W r M6 O6 S6→Calls Tryd.prog 21 #[.agg D0,.agg (gA r.h M6 O6 r.n S6)] W fun e w'=>e=.returned (.bool true)∧Gr W w'):=fun W=>Sm5.out W M6 O6 S6
 generalize gA r.h M6 O6 r.n S6=D1 at *
 have HY:Hid (∀Y:Array Value,Gr w6 ((w6.alloc (.cells Y 50)).setRow w6.heap.size D1)):=fun Y=>gr_setRow ((Gr.refl _).alloc _) (Nat.le_refl _) _
 have HY1:Hid (∀Y:Array Value,((w6.alloc (.cells Y 50)).setRow w6.heap.size D1).heap[w6.heap.size]?=some (.cells D1 50 (0,0))):=fun Y=>setRow_heap _ _ _ _ _ (0,0) (heap_alloc_new w6 _)
 clear G6 Sp D6 Sm5 HX HX1 v0 v1 HB5 HV5 HDr
 go_wp2_with (first
  | (refine wpList_store_row rfl 50 _ _ rfl w6.heap.size D1 rfl rfl 50 _ (heap_alloc_new w6 _) (by rw [HE.out];exact iDidA) (by rw [HE.out];rfl) HEo.out ?_)
  | (refine wpList_load_row rfl 50 (.tmp 10) rfl w5.heap.size rfl 50 D0 (0,0) _ ?b1 Tryd.underlying50 rfl (by rw [HD.out];exact iDidA) ?_;(case b1=>exact heap_up (HY.out _) HD6.out))
  | (refine wpList_load_row rfl 50 (.tmp 11) rfl w6.heap.size rfl 50 D1 (0,0) _ ?b2 Tryd.underlying50 rfl (by rw [HE.out];exact iDidA) ?_;(case b2=>exact HY1.out _)))
 refine (Sm6.out _ (dr_up HDr6.out (HY.out _)) (dr_up HDx.out (HY.out _))).mono ?_
 rintro e w7 ⟨rfl,G7⟩
 have HG7:Hid (Gr w w7):=(HG6.out.trans (HY.out _)).trans G7
 clear G7 Sm6 HY HY1
 go_wp2_with fail
 go_ret
 exact ⟨rfl,HG7.out⟩
end Go.Proofs.YtkdghgiajifbdaaDoor.Ts
namespace Go.Proofs.YtkdghgiajifbdaaDoor.Ts
open Go.ChangeShapes Go.WideShapes Go.ChangeAt Go.RowKit Mm Hc Mi Bk
open Hh hiding Rn

theorem b1_ok {r:Mi.Rn}(o:r.Ok):(b1 r).Ok:=⟨stp_ok o.h r.m,o.tl,o.tb,o.h0,o.h1⟩
theorem bst_bd (bpc last steps:Int):∀(f k:Nat) (r:Mi.Rn),r.Ok→(bst bpc last steps f k r).Ok∧(bst bpc last steps f k r).out.length≤r.out.length+f∧(bst bpc last steps f k r).sto.length≤r.sto.length+f
 | 0,k,r,o=>⟨o,Nat.le_refl _,Nat.le_refl _⟩
 | f+1,k,r,o=>by
  have h:=stp_len o.h r.m
  have e1:(b1 r).out.length≤r.out.length+1:=by show (r.out++(stp r.h r.m).out).length≤_;rw [List.length_append];omega
  have e2:(b1 r).sto.length≤r.sto.length+1:=by show (r.sto++(stp r.h r.m).sto).length≤_;rw [List.length_append];omega
  unfold bst
  split
  ·split
   ·exact ⟨b1_ok o,by omega,by omega⟩
   ·obtain ⟨a,b,c⟩:=bst_bd bpc last steps f (k+1) (b1 r) (b1_ok o)
    exact ⟨a,by omega,by omega⟩
  ·exact ⟨o,by omega,by omega⟩
def MakesOk (w:World) (l:List UInt8) (pc steps:Int):Prop:=∃(bd:Nat→List Mv) (tail:List Mv),mayC (codeK pc bd (blk l pc 16 0).length 0++tail)=true∧
 (∀j,j<(blk l pc 16 0).length→BodyOk pc (pc+4*((blk l pc 16 0).length:Int)) steps (at4 pc j) (ldV l 13 (at4 pc j)) (bd j))∧TailOk pc (pc+4*((blk l pc 16 0).length:Int)) steps (at4 pc (blk l pc 16 0).length) tail∧
 ∀(W:World) (b:Nat) (sa:Option Addr) (sc:Nat),Gr w W→W.ownsRow b 23 5 (.slice sa (blk l pc 16 0).length sc) (blk l pc 16 0).length (blC (blk l pc 16 0))→Calls Tryd.prog 15 #[.agg #[.int .u32 pc,.slice sa (blk l pc 16 0).length sc]] W fun e w'=>∃ca cn cc,e=.returned (.slice ca cn cc)∧Cs w' ca cn (codeK pc bd (blk l pc 16 0).length 0++tail)∧Gr W w'
theorem tsame_any {w:World}{h:Hv}(o:h.Ok){ao:Option Addr}{n:Nat}(cap:Nat){l:List UInt8}(M:Mem w ao n l)(hn:n≤140737488351232)(steps:Int)(mk:n≤4096→0<(blk l h.pc 16 0).length→MakesOk w l h.pc steps):
  Calls Tryd.prog 6 #[.agg (hA h),.slice ao n cap,.int .i64 steps] w fun e w'=>e=.returned (.bool true)∧Gr w w':=by
 by_cases hy:may h=true∧h.state=0∧n≤4096∧0≤steps∧steps≤400∧0<(bkX n l h.pc).length
 ·obtain ⟨hm,hs,hn4,s0,s1,hc⟩:=hy
  have eX:bkX n l h.pc=blk l h.pc 16 0:=if_neg (by omega)
  have eP:bkP n h.pc=h.pc:=if_neg (by omega)
  rw [eX] at hc
  obtain ⟨bd,tail,hmay,hb,ht,TM⟩:=mk hn4 hc
  have hll:l.length≤4096:=by have:=M.len;omega
  have B:=blkd_of hll o.pc0 o.pc1 hc
  have hlast:Wd.lo (h.pc+4*((blk l h.pc 16 0).length:Int))=h.pc+4*((blk l h.pc 16 0).length:Int):=Int.emod_eq_of_lt (by have:=o.pc0;omega) (by have:=B.fit;omega)
  have E:=trans_run B hb ht o hm hs rfl s0 (fun j hj=>rfl)
  obtain ⟨rok,ro,rs⟩:=bst_bd h.pc (h.pc+4*((blk l h.pc 16 0).length:Int)) steps (blk l h.pc 16 0).length 0 (mstart h l) (start_ok o l)
  have hc16:(blk l h.pc 16 0).length≤16:=(blk_facts l h.pc 16 0).1
  have e1:(mstart h l).sto.length=0:=rfl
  have e2:(mstart h l).out.length=0:=rfl
  refine tsame_yes (X:=blC (blk l h.pc 16 0)) (cnt:=(blk l h.pc 16 0).length) (code:=codeK h.pc bd (blk l h.pc 16 0).length 0++tail) (r:=bst h.pc (h.pc+4*((blk l h.pc 16 0).length:Int)) steps (blk l h.pc 16 0).length 0 (mstart h l)) (hA_size o) (by unfold hA;rw [List.getElem?_toArray];exact hL_fld o 0) (by rw [←hs];exact (may_get h o).2.2.2.1) ⟨o.pc0,o.pc1⟩ hn4 s0 s1 hc hc16 ?_ ?_ TM ?_ ?_ ?_ rok (by omega) (by omega)
  ·intro W G
   refine (RMake_any cap h.pc (M.of G) hn o.pc0 o.pc1).mono ?_
   rintro e w' ⟨sa,sc,rfl,O,G'⟩
   rw [eX] at O ⊢
   rw [eP]
   exact ⟨sa,sc,rfl,O,G'⟩
  ·intro W
   rw [←hm]
   exact rmay_any o W
  ·intro W ca cn cc C
   rw [←hmay]
   have hcn:cn≤140737488351232:=by
    have:=C.len
    unfold mayC at hmay
    simp only [Bool.and_eq_true,decide_eq_true_eq] at hmay
    omega
   exact May_any cc C hcn
  ·intro W ca cn cc G C
   refine (Play_any cc C hmay o cap (M.of G) hn4 h.pc (Wd.lo (h.pc+4*((blk l h.pc 16 0).length:Int))) steps).mono ?_
   rintro e w' ⟨M',O',S',rfl,D,G'⟩
   rw [hlast] at D ⊢
   exact ⟨M',O',S',by rw [E.h,E.n],dr_eqv D E rok,G'⟩
  ·intro W sa sc G
   refine (Steps_any sc o hs cap (M.of G) hn4 hc16 ⟨o.pc0,o.pc1⟩ steps).mono ?_
   rintro e w' ⟨M',O',S',rfl,D,G'⟩
   rw [hlast] at D ⊢
   exact ⟨M',O',S',rfl,D,G'⟩
 ·exact tsame_out o cap M hn steps hy
end Go.Proofs.YtkdghgiajifbdaaDoor.Ts
namespace Go.Proofs.YtkdghgiajifbdaaDoor.Ts
open Go.ChangeShapes Go.WideShapes Go.ChangeAt Go.RowKit Mm

variable {w : World} {ao : Option Addr} {n : Int}
structure Iv where
 op:Int
 rd:Int
 r1:Int
 r2:Int
 im:Int
def I64 (n:Int):Prop := -9223372036854775808≤n∧n≤9223372036854775807
structure Iv.Ok (i:Iv):Prop where
 op:I64 i.op
 rd:I64 i.rd
 r1:I64 i.r1
 r2:I64 i.r2
 im : -2147483648≤i.im∧i.im≤2147483647
structure Is (w:World) (ao:Option Addr) (n:Nat) (is:List Iv):Prop where
 len:is.length=n
 ok:∀i∈is,i.Ok
 spot:0<n→∃b o,ao=some ⟨b,o,none⟩∧b<w.heap.size∧∀j i,is[j]?=some i→w.cell? ⟨b,o+j*5,none⟩=some (.int .i64 i.op)∧w.cell? ⟨b,o+j*5+1,none⟩=some (.int .i64 i.rd)∧w.cell? ⟨b,o+j*5+2,none⟩=some (.int .i64 i.r1)∧w.cell? ⟨b,o+j*5+3,none⟩=some (.int .i64 i.r2)∧w.cell? ⟨b,o+j*5+4,none⟩=some (.int .i32 i.im)
theorem Is.of {w':World}{n:Nat}{is:List Iv}(h:Is w ao n is)(g:Gr w w'):Is w' ao n is:=
 ⟨h.len,h.ok,fun hn=>by
  obtain ⟨b,o,e,hb,hc⟩:=h.spot hn
  refine ⟨b,o,e,Nat.lt_of_lt_of_le hb g.size,fun j i hj=>?_⟩
  obtain ⟨h0,h1,h2,h3,h4⟩:=hc j i hj
  exact ⟨(g.cell _ (by exact hb)).trans h0,(g.cell _ (by exact hb)).trans h1,(g.cell _ (by exact hb)).trans h2,(g.cell _ (by exact hb)).trans h3,(g.cell _ (by exact hb)).trans h4⟩⟩
end Go.Proofs.YtkdghgiajifbdaaDoor.Ts
namespace Go.Proofs.YtkdghgiajifbdaaDoor.Ts
open Go.ChangeShapes Go.WideShapes Go.ChangeAt Go.RowKit Mm Hc Mi Bk
open Hh

theorem shape_own {w:World}{base e sz n:Nat}{v:Value}{xs:List Value}(h:w.ownsRow base e sz v n xs):∃a c,v=.slice a n c:=by
 rcases h.2 with ⟨rfl,rfl⟩|⟨g,cap,_,rfl,_⟩
 ·exact ⟨none,0,rfl⟩
 ·exact ⟨_,cap,rfl⟩
theorem at_own {w:World}{base e sz n:Nat}{v:Value}{xs:List Value}(h:w.ownsRow base e sz v n xs)(hn:0<n):∃g c,v=.slice (some ⟨g,0,none⟩) n c∧g<w.heap.size∧∀j u,xs[j]?=some u→w.cell? ⟨g,j,none⟩=some u:=by
 obtain ⟨g,c,rfl⟩:=own_form h hn
 refine ⟨g,c,rfl,(h.lt g rfl).2,fun j u hu=>?_⟩
 have:=h.cells (g:=g) rfl j u hu
 rwa [add_at,Nat.zero_add] at this
def Sr (w:World) (vx:Value) (m sz:Nat) (news:List Value):Prop:=
 (vx=.slice none 0 0∧m=0∧news=[])∨∃ad c,vx=.slice (some ad) m c∧news.length=m*sz∧∀j u,news[j]?=some u→w.cell? (ad.add j)=some u
theorem Sr.gr {w w':World}{vx:Value}{m sz:Nat}{news:List Value}(h:Sr w vx m sz news)(G:Gr w w'):Sr w' vx m sz news:=by
 rcases h with h|⟨ad,c,e,hl,hc⟩
 ·exact .inl h
 ·exact .inr ⟨ad,c,e,hl,fun j u hj=>(G.cell _ (World.block_lt_of_cell? w _ (hc j u hj))).trans (hc j u hj)⟩
theorem Sr.new (w:World)(cs:Array Value)(t n c:Nat)(h:cs.size=n*5):Sr (w.alloc (.cells cs t)) (.slice (some ⟨w.heap.size,0,none⟩) n c) n 5 cs.toList:=
 .inr ⟨_,_,rfl,by simpa using h,fun j u hj=>by rw [add_at,Nat.zero_add,cr (heap_alloc_new w _)];simpa using hj⟩
section
variable {P : Program} {w : World} {base e size bytes n m : Nat} {i : TypeInfo} {z : Value} {t : TypeId}
theorem wpList_append_sr {ops:Array Oper}{rest:List Oper}{o:Oper}{a:Act}{Q:Exit→Act→World→Prop}
  (hg:o.guard=none)(s x:Operand)(hop:o.op=Op.call { callee:=Callee.builtin Builtin.append,args:=#[s,x],argTypes:=#[t,t] })
  (h1:P.underlying t=some (.slice e))(h2:P.info? e=some i)(h3:i.zero=some z)(h4:i.size=size)(h5:i.bytes=bytes)(h6:z.cells.size=size)(h7:0<size)
  {v vx:Value}{olds news:List Value}(hs:a.eval s=v)(hx:a.eval x=vx)(hown:w.ownsRow base e size v n olds)(hsrc:Sr w vx m size news)(h1c:∀u∈news,u.oneCell'=true)(b1:n+m≤maxLen)(b2:(n+m)*bytes≤140737488355328)(hbase:base≤w.heap.size)
  (hK:∀v' w',w'.ownsRow base e size v' (n+m) (olds++news)→w.grownBy w' v.ownBlock→wpList P ops Q rest (a.put o.dst v') w'):wpList P ops Q (o::rest) a w:=by
 refine wpList_plain hg fun K hk=>?_
 have hr:∃v' w',(Builtin.append_ #[t,t] o.type #[v,vx]).run P w=.ok v' w'∧w'.ownsRow base e size v' (n+m) (olds++news)∧w.grownBy w' v.ownBlock:=by
  rcases hsrc with ⟨rfl,rfl,rfl⟩|⟨ad,c,rfl,hl,hc⟩
  ·exact ⟨v,w,run_append_owned_none w base t o.type e i size h1 h2 v n olds hown,by simpa using hown,⟨rfl,rfl,rfl,Nat.le_refl _,fun _ _ _=>rfl⟩⟩
  ·obtain ⟨v',w',hrun,r1,r2,_⟩:=run_append_own (P:=P) w base t o.type e i z size bytes h1 h2 h3 h4 h5 h6 h7 v n olds hown ad m c news hl hc h1c b1 b2 hbase
   exact ⟨v',w',hrun,r1,r2⟩
 obtain ⟨v',w',hrun,r1,r2⟩:=hr
 unfold Oper.wp
 simp [execOp,hop,resolve,invoke,builtin,hs,hx,hrun,Result.andThen]
 exact hk _ _ (hK v' w' r1 r2)
end
def mvC1 (i:Mv):List Value:=[.int .i64 i.op,.int .i64 i.d,.int .i64 i.a,.int .i64 i.b,.int .u32 i.n]
def mvC (code:List Mv):List Value:=code.flatMap mvC1
theorem mvC_app (a b:List Mv):mvC (a++b)=mvC a++mvC b:=by simp [mvC]
theorem mvC_get:∀(code:List Mv) (i j:Nat) (x:Mv),code[i]?=some x→j<5→(mvC code)[i*5+j]?=(mvC1 x)[j]?
 | [],i,j,x,h,_=>by simp at h
 | p::r,0,j,x,h,hj=>by
  simp at h;subst h
  show (mvC1 p++mvC r)[0*5+j]?=_
  rw [Nat.zero_mul,Nat.zero_add,List.getElem?_append_left (by simpa [mvC1] using hj)]
 | p::r,i+1,j,x,h,hj=>by
  have ih:=mvC_get r i j x (by simpa using h) hj
  show (mvC1 p++mvC r)[(i+1)*5+j]?=_
  rw [List.getElem?_append_right (by simp [mvC1];omega)]
  rw [show (i+1)*5+j-(mvC1 p).length=i*5+j by simp [mvC1];omega]
  exact ih
theorem mvC_one (code:List Mv):∀u∈mvC code,u.oneCell'=true:=by
 intro u hu
 simp only [mvC,List.mem_flatMap] at hu
 obtain ⟨i,_,hu⟩:=hu
 simp only [mvC1,List.mem_cons,List.not_mem_nil,or_false] at hu
 rcases hu with rfl|rfl|rfl|rfl|rfl<;>rfl
theorem cs_own {w:World}{base:Nat}{v:Value}{code:List Mv}(O:w.ownsRow base 81 5 v code.length (mvC code))(hn:∀i∈code,Hh.W i.n)(ho:∀i∈code, -9223372036854775808≤i.op∧i.op≤9223372036854775807):∃ca cc,v=.slice ca code.length cc∧Cs w ca code.length code:=by
 obtain ⟨ca,cc,rfl⟩:=shape_own O
 refine ⟨ca,cc,rfl,rfl,hn,ho,fun h0=>?_⟩
 obtain ⟨g,c,e,hg,hc⟩:=at_own O h0
 injection e with e1 _ _
 refine ⟨g,0,e1,hg,fun j i hi=>?_⟩
 rw [Nat.zero_add]
 have q:=fun t (ht:t<5)=>mvC_get code j t i hi ht
 refine ⟨hc _ _ ?_,hc _ _ ?_,hc _ _ ?_,hc _ _ ?_,hc _ _ ?_⟩
 ·have:=q 0 (by omega);rwa [Nat.add_zero] at this
 ·exact q 1 (by omega)
 ·exact q 2 (by omega)
 ·exact q 3 (by omega)
 ·exact q 4 (by omega)
def Ct (w:World) (ca:Option Addr) (cn:Nat) (code:List Mv):Prop:=∀W:World,(∀(k:Nat) (o:Array Value) (f:Nat×Nat),w.heap[k]?=some (.cells o 81 f)→W.heap[k]?=w.heap[k]?)→Cs W ca cn code
theorem Ct.cs {w:World}{ca:Option Addr}{cn:Nat}{code:List Mv}(h:Ct w ca cn code):Cs w ca cn code:=h w fun _ _ _ _=>rfl
theorem ct_own {w:World}{base:Nat}{v:Value}{code:List Mv}(O:w.ownsRow base 81 5 v code.length (mvC code))(hn:∀i∈code,Hh.W i.n)(ho:∀i∈code, -9223372036854775808≤i.op∧i.op≤9223372036854775807):∃ca cc,v=.slice ca code.length cc∧Ct w ca code.length code:=by
 obtain ⟨ca,cc,rfl,_⟩:=cs_own O hn ho
 refine ⟨ca,cc,rfl,fun W q=>?_⟩
 obtain ⟨ca',cc',e,C⟩:=cs_own (owns_to O q) hn ho
 injection e with e1 _ _
 subst e1
 exact C
end Go.Proofs.YtkdghgiajifbdaaDoor.Ts
