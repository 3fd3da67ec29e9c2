/-
  Rm3: texts of ours that lie in one file.
-/
import Derived.Test.YtkdghgiajifbdaaDoorQ06
set_option linter.unusedVariables false
set_option linter.unusedSimpArgs false
set_option maxHeartbeats 8000000
set_option maxRecDepth 100000
namespace Go.Proofs.YtkdghgiajifbdaaDoor.Mi
open Go.ChangeShapes Go.WideShapes Go.ChangeAt Go.RowKit Mm Hh Hc

variable {w w' : World} {base k g : Nat} {M : Value} {l : List UInt8} {r : Rn} {bf bt : Int}
theorem mo_load (h:MO w base M l)(hl:l.length≤4096)(op a:Int)(ha:W a):
  Calls Tryd.prog 38 #[M,.int .i64 op,.int .u32 a] w fun e w'=>e=.returned (.tuple #[.int .u32 (ldV l op a),.bool (ldOk l op a)])∧w'=w:=by
 obtain ⟨ao,cap,rfl,m,_⟩:=h
 exact Mr.Load_any cap op a m (by omega) ha.1 ha.2
theorem mo_store (h:MO w base M l)(hl:l.length≤4096)(op a x:Int)(ha:W a)(hx:W x)(ok:stOk l op a=true):
  Calls Tryd.prog 73 #[M,.int .i64 op,.int .u32 a,.int .u32 x] w fun e w'=>∃k c,e=.returned (.tuple #[.slice (some ⟨k,0,none⟩) l.length c,.bool true])∧MO w' base (.slice (some ⟨k,0,none⟩) l.length c) (stL l op a x)∧Gr w w':=by
 obtain ⟨ao,cap,rfl,m,_⟩:=h
 have e2:stL l op a x=put l a.toNat x (ssz op):=by unfold stL;rw [ok];rfl
 rw [e2]
 have hok:thr l.length (ssz op) a=true:=ok
 obtain ⟨b,o,rfl,hb,hc⟩:=m.spot (thr_pos hok ha.1)
 obtain ⟨a,rfl⟩:=Int.eq_ofNat_of_zero_le ha.1
 refine (Mr.Store_yes b o l.length cap l op x a w (by omega) rfl (by have:=ha.2;omega) hb hx.1 hx.2 hc hok).mono ?_
 rintro e w' ⟨g,cap',rfl,R,G,hg⟩
 refine ⟨g,cap',rfl,⟨some ⟨g,0,none⟩,cap',by rw [len_put],R.mem,fun ad q h0=>.inr ?_⟩,G⟩
 obtain rfl:=Option.some.inj q
 obtain ⟨rest,hr⟩:=R
 exact ⟨_,_,hr⟩
theorem mo_store_no (h:MO w base M l)(hl:l.length≤4096)(op a x:Int)(ha:W a)(ok:stOk l op a=false):
  Calls Tryd.prog 73 #[M,.int .i64 op,.int .u32 a,.int .u32 x] w fun e w'=>e=.returned (.tuple #[.slice none 0 0,.bool false])∧w'=w:=by
 obtain ⟨ao,cap,rfl,m,_⟩:=h
 exact Mr.Store_no ao l.length cap op a x w (by omega) ha.1 ha.2 ok
theorem MO.form (h:MO w base M l):∃ao cap,M=.slice ao l.length cap:=by
 obtain ⟨ao,cap,e,_⟩:=h
 exact ⟨ao,cap,e⟩
theorem MO.of (h:MO w base M l)(q:Gr w w')(hb:base≤w.heap.size):MO w' base M l:=
 h.keep (fun k hk=>q.block k (by omega)) (fun k o f hk=>q.block k (gs hk).1)
theorem heap_up (g:Gr w w'){x:Obj}(h:w.heap[k]?=some x):w'.heap[k]?=some x:=by
 rw [Below.block g k (gs h).1];exact h
theorem Fu.box (h:Fu base w w'){o:Array Value}{f:Nat×Nat}(e:w.heap[k]?=some (.cells o 81 f)):w'.heap[k]?=some (.cells o 81 f):=(h.keep k o _ f e (by decide) (by decide) (by decide)).trans e
theorem atom_lrno (V:Ru w base g r bf bt)(op mop d A B n:Int)(hd0:0≤d)(hd1:d<36)(hA0:0≤A)(hA1:A<36)(hB0:0≤B)(hB1:B<36)(hl:r.m.length≤4096)(hs:r.sto.length≤1000000)(hop:op=46)(ok:ldOk r.m 13 (r.get A)=false):
  Calls Tryd.prog 76 #[.pointer (some ⟨g,0,none⟩),.int .i64 op,.agg #[.int .i64 mop,.int .i64 d,.int .i64 A,.int .i64 B,.int .u32 n]] w fun e w'=>e=.returned (.tuple #[])∧Ru w' base g (r.trap 3) bf bt∧Fu base w w':=by
 have wa:W (r.get A):=V.ok.get A
 have wb:W (r.get B):=V.ok.get B
 have hbl:=V.base_le
 have GA:Hid (∀W:World,Ru W base g r bf bt→_):=fun W V=>get_any V A hA0 hA1
 have GB:Hid (∀W:World,Ru W base g r bf bt→_):=fun W V=>get_any V B hB0 hB1
 generalize r.get A=a at *
 generalize r.get B=b at *
 obtain ⟨M,O,S,V⟩:=V
 obtain ⟨ao,cap,rfl⟩:=V.mem.form
 have L:Hid (∀W:World,Gr w W→_):=fun W G=>mo_load (V.mem.of G hbl) hl 13 a wa
 have HV:Hid (RV w base g r bf bt (.slice ao r.m.length cap) O S):=V
 have q37:w.cell? ⟨g,37,none⟩=some (.slice ao r.m.length cap):=(V.top 0).trans rfl
 have hgl:g<w.heap.size:=V.lt
 have wx:W (ldV r.m 13 a):=W.ldV r.m 13 a
 subst hop
 have Tr:Hid (∀W:World,Ru W base g r bf bt→_):=fun W V=>rtrap_any V 3
 rw [ok] at L
 clear V
 go_enter Tryd.func76,Tryd.ntmps76
 go_wp2_with fail
 refine (GA.out _ ⟨_,_,_,HV.out.of ((Gr.refl _).alloc _)⟩).mono ?_
 rintro e w0 ⟨rfl,rfl⟩
 clear GA
 go_wp2_with fail
 refine (GB.out _ ⟨_,_,_,HV.out.of ((Gr.refl _).alloc _)⟩).mono ?_
 rintro e w0 ⟨rfl,rfl⟩
 clear GB
 go_wp2_with fail
 refine (L.out _ ((Gr.refl _).alloc _)).mono ?_
 rintro e w0 ⟨rfl,rfl⟩
 clear L q37
 go_wp2_with fail
 refine (Tr.out _ ⟨_,_,_,HV.out.of ((Gr.refl _).alloc _)⟩).mono ?_
 rintro e w1 ⟨rfl,R1,C1⟩
 have HR:Hid (Ru w1 base g (r.trap 3) bf bt):=R1
 have HF:Hid (Fu base w w1):=(Fu.ofGr ((Gr.refl _).alloc _) hbl).trans ((HV.out.of ((Gr.refl _).alloc _)).fu C1)
 clear R1 C1 Tr HV
 go_wp2_with fail
 refine bodyPost_ret (results_none Tryd.results76 _ _ _) rfl ?_
 exact ⟨rfl,HR.out,HF.out⟩
theorem atom_no (V:Ru w base g r bf bt)(op mop d A B n:Int)(hd0:0≤d)(hd1:d<36)(hA0:0≤A)(hA1:A<36)(hB0:0≤B)(hB1:B<36)(hl:r.m.length≤4096)(hs:r.sto.length≤1000000)(hop:¬op=46)(ok:ldOk r.m 13 (r.get A)=false):
  Calls Tryd.prog 76 #[.pointer (some ⟨g,0,none⟩),.int .i64 op,.agg #[.int .i64 mop,.int .i64 d,.int .i64 A,.int .i64 B,.int .u32 n]] w fun e w'=>e=.returned (.tuple #[])∧Ru w' base g (r.trap 4) bf bt∧Fu base w w':=by
 have wa:W (r.get A):=V.ok.get A
 have wb:W (r.get B):=V.ok.get B
 have hbl:=V.base_le
 have GA:Hid (∀W:World,Ru W base g r bf bt→_):=fun W V=>get_any V A hA0 hA1
 have GB:Hid (∀W:World,Ru W base g r bf bt→_):=fun W V=>get_any V B hB0 hB1
 generalize r.get A=a at *
 generalize r.get B=b at *
 obtain ⟨M,O,S,V⟩:=V
 obtain ⟨ao,cap,rfl⟩:=V.mem.form
 have L:Hid (∀W:World,Gr w W→_):=fun W G=>mo_load (V.mem.of G hbl) hl 13 a wa
 have HV:Hid (RV w base g r bf bt (.slice ao r.m.length cap) O S):=V
 have q37:w.cell? ⟨g,37,none⟩=some (.slice ao r.m.length cap):=(V.top 0).trans rfl
 have hgl:g<w.heap.size:=V.lt
 have wx:W (ldV r.m 13 a):=W.ldV r.m 13 a
 have hb46:(op == 46)=false:=by simpa using hop
 have Tr:Hid (∀W:World,Ru W base g r bf bt→_):=fun W V=>rtrap_any V 4
 rw [ok] at L
 clear V
 go_enter Tryd.func76,Tryd.ntmps76
 go_wp2_with fail
 refine (GA.out _ ⟨_,_,_,HV.out.of ((Gr.refl _).alloc _)⟩).mono ?_
 rintro e w0 ⟨rfl,rfl⟩
 clear GA
 go_wp2_with fail
 refine (GB.out _ ⟨_,_,_,HV.out.of ((Gr.refl _).alloc _)⟩).mono ?_
 rintro e w0 ⟨rfl,rfl⟩
 clear GB
 go_wp2_with fail
 refine (L.out _ ((Gr.refl _).alloc _)).mono ?_
 rintro e w0 ⟨rfl,rfl⟩
 clear L q37
 go_wp2_with fail
 refine (Tr.out _ ⟨_,_,_,HV.out.of ((Gr.refl _).alloc _)⟩).mono ?_
 rintro e w1 ⟨rfl,R1,C1⟩
 have HR:Hid (Ru w1 base g (r.trap 4) bf bt):=R1
 have HF:Hid (Fu base w w1):=(Fu.ofGr ((Gr.refl _).alloc _) hbl).trans ((HV.out.of ((Gr.refl _).alloc _)).fu C1)
 clear R1 C1 Tr HV
 go_wp2_with fail
 refine bodyPost_ret (results_none Tryd.results76 _ _ _) rfl ?_
 exact ⟨rfl,HR.out,HF.out⟩
theorem atom_lr (V:Ru w base g r bf bt)(op mop d A B n:Int)(hd0:0≤d)(hd1:d<36)(hA0:0≤A)(hA1:A<36)(hB0:0≤B)(hB1:B<36)(hl:r.m.length≤4096)(hs:r.sto.length≤1000000)(hop:op=46)(ok:ldOk r.m 13 (r.get A)=true):
  Calls Tryd.prog 76 #[.pointer (some ⟨g,0,none⟩),.int .i64 op,.agg #[.int .i64 mop,.int .i64 d,.int .i64 A,.int .i64 B,.int .u32 n]] w fun e w'=>e=.returned (.tuple #[])∧Ru w' base g ({ r with h:=r.h.hold true (r.get A) }.put d (ldV r.m 13 (r.get A))) bf bt∧Fu base w w':=by
 have wa:W (r.get A):=V.ok.get A
 have wb:W (r.get B):=V.ok.get B
 have hbl:=V.base_le
 have GA:Hid (∀W:World,Ru W base g r bf bt→_):=fun W V=>get_any V A hA0 hA1
 have GB:Hid (∀W:World,Ru W base g r bf bt→_):=fun W V=>get_any V B hB0 hB1
 generalize r.get A=a at *
 generalize r.get B=b at *
 obtain ⟨M,O,S,V⟩:=V
 obtain ⟨ao,cap,rfl⟩:=V.mem.form
 have L:Hid (∀W:World,Gr w W→_):=fun W G=>mo_load (V.mem.of G hbl) hl 13 a wa
 have HV:Hid (RV w base g r bf bt (.slice ao r.m.length cap) O S):=V
 have q37:w.cell? ⟨g,37,none⟩=some (.slice ao r.m.length cap):=(V.top 0).trans rfl
 have hgl:g<w.heap.size:=V.lt
 have wx:W (ldV r.m 13 a):=W.ldV r.m 13 a
 subst hop
 rw [ok] at L
 have V1:=V.hart (i:=33) (by omega) (set_held V.ok.h true) ⟨V.ok.h.len,V.ok.h.reg,V.ok.h.pc0,V.ok.h.pc1,V.ok.h.at0,V.ok.h.at1⟩
 have V2:=V1.hart (i:=34) (by omega) (set_heldAt V1.ok.h a) (V.ok.h.hold true wa.1 wa.2)
 have F2:=V.fu (((Ch.refl _ _).setCell 33 (.bool true)).setCell 34 (.int .u32 a))
 have HV2:Hid (RV ((w.setCell ⟨g,33,none⟩ (.bool true)).setCell ⟨g,34,none⟩ (.int .u32 a)) base g { r with h:=r.h.hold true a } bf bt (.slice ao r.m.length cap) O S):=V2
 have HF2:Hid (Fu base w ((w.setCell ⟨g,33,none⟩ (.bool true)).setCell ⟨g,34,none⟩ (.int .u32 a))):=F2
 have hb2:base≤((w.setCell ⟨g,33,none⟩ (.bool true)).setCell ⟨g,34,none⟩ (.int .u32 a)).heap.size:=Nat.le_trans V2.bg (Nat.le_of_lt V2.lt)
 have q33:=V.fld (j:=1) (by omega)
 have q34:=V.fld (j:=2) (by omega)
 have f:=V.fz
 simp at q33 q34
 clear V1 V2 F2
 generalize ldV r.m 13 a=x at *
 have Pt:Hid (∀W:World,Ru W base g { r with h:=r.h.hold true a } bf bt→_):=fun W V=>put_any V d x hd0 hd1 wx
 clear V
 go_enter Tryd.func76,Tryd.ntmps76
 go_wp2_with fail
 refine (GA.out _ ⟨_,_,_,HV.out.of ((Gr.refl _).alloc _)⟩).mono ?_
 rintro e w0 ⟨rfl,rfl⟩
 clear GA
 go_wp2_with fail
 refine (GB.out _ ⟨_,_,_,HV.out.of ((Gr.refl _).alloc _)⟩).mono ?_
 rintro e w0 ⟨rfl,rfl⟩
 clear GB
 go_wp2_with fail
 refine (L.out _ ((Gr.refl _).alloc _)).mono ?_
 rintro e w0 ⟨rfl,rfl⟩
 clear L q37
 go_wp2_with fail
 refine (Pt.out _ ⟨_,_,_,HV2.out.of ((Gr.refl _).alloc _)⟩).mono ?_
 rintro e w3 ⟨rfl,R3,C3⟩
 have HR:Hid (Ru w3 base g ({ r with h:=r.h.hold true a }.put d x) bf bt):=R3
 have HF:Hid (Fu base w w3):=(HF2.out.trans (Fu.ofGr ((Gr.refl _).alloc _) hb2)).trans ((HV2.out.of ((Gr.refl _).alloc _)).fu C3)
 clear R3 C3 Pt HV HV2 HF2
 go_wp2_with fail
 refine bodyPost_ret (results_none Tryd.results76 _ _ _) rfl ?_
 exact ⟨rfl,HR.out,HF.out⟩
theorem atom_scn1 (V:Ru w base g r bf bt)(op mop d A B n:Int)(hd0:0≤d)(hd1:d<36)(hA0:0≤A)(hA1:A<36)(hB0:0≤B)(hB1:B<36)(hl:r.m.length≤4096)(hs:r.sto.length≤1000000)(hop:op=47)(ok:ldOk r.m 13 (r.get A)=true)(hh:r.h.held=false):
  Calls Tryd.prog 76 #[.pointer (some ⟨g,0,none⟩),.int .i64 op,.agg #[.int .i64 mop,.int .i64 d,.int .i64 A,.int .i64 B,.int .u32 n]] w fun e w'=>e=.returned (.tuple #[])∧Ru w' base g ({ r with h:=r.h.hold false 0 }.put d 1) bf bt∧Fu base w w':=by
 have wa:W (r.get A):=V.ok.get A
 have wb:W (r.get B):=V.ok.get B
 have hbl:=V.base_le
 have GA:Hid (∀W:World,Ru W base g r bf bt→_):=fun W V=>get_any V A hA0 hA1
 have GB:Hid (∀W:World,Ru W base g r bf bt→_):=fun W V=>get_any V B hB0 hB1
 generalize r.get A=a at *
 generalize r.get B=b at *
 obtain ⟨M,O,S,V⟩:=V
 obtain ⟨ao,cap,rfl⟩:=V.mem.form
 have L:Hid (∀W:World,Gr w W→_):=fun W G=>mo_load (V.mem.of G hbl) hl 13 a wa
 have HV:Hid (RV w base g r bf bt (.slice ao r.m.length cap) O S):=V
 have q37:w.cell? ⟨g,37,none⟩=some (.slice ao r.m.length cap):=(V.top 0).trans rfl
 have hgl:g<w.heap.size:=V.lt
 have wx:W (ldV r.m 13 a):=W.ldV r.m 13 a
 subst hop
 rw [ok] at L
 have HH:Hid (r.h.held=_):=hh
 clear hh
 have Am:Hid (∀V:World,Calls Tryd.prog 103 #[.int .i64 47,.int .u32 (ldV r.m 13 a),.int .u32 b] V fun e w'=>e=.returned (.int .u32 (Wd.amo 47 (ldV r.m 13 a) b))∧Gr V w'):=fun V=>(Rw.amo_any 47 (ldV r.m 13 a) b V wx.1 wx.2 wb.1 wb.2).mono fun e w' h=>⟨h.1,by obtain ⟨m,e⟩:=h.2;rw [e];exact (Gr.refl _).drewN m⟩
 have Pt:Hid (∀W:World,Ru W base g { r with h:=r.h.hold false 0 } bf bt→_):=fun W V=>put_any V d 1 hd0 hd1 ⟨by omega,by omega⟩
 generalize Wd.amo 47 (ldV r.m 13 a) b=y at *
 generalize ldV r.m 13 a=x at *
 clear V
 go_enter Tryd.func76,Tryd.ntmps76
 go_wp2_with fail
 refine (GA.out _ ⟨_,_,_,HV.out.of ((Gr.refl _).alloc _)⟩).mono ?_
 rintro e w0 ⟨rfl,rfl⟩
 clear GA
 go_wp2_with fail
 refine (GB.out _ ⟨_,_,_,HV.out.of ((Gr.refl _).alloc _)⟩).mono ?_
 rintro e w0 ⟨rfl,rfl⟩
 clear GB
 go_wp2_with fail
 refine (L.out _ ((Gr.refl _).alloc _)).mono ?_
 rintro e w0 ⟨rfl,rfl⟩
 clear L q37
 go_wp2_with fail
 refine (Am.out _).mono ?_
 rintro e w0 ⟨rfl,G0⟩
 have V:=HV.out.of (((Gr.refl _).alloc _).trans G0)
 have HBOX:Hid (w0.heap[w.heap.size]?=some (.cells #[.int .i64 mop,.int .i64 d,.int .i64 A,.int .i64 B,.int .u32 n] 81 (0,0))):=heap_up G0 (heap_alloc_new w _)
 have kd:=cr1 HBOX.out
 have HF0:Hid (Fu base w w0):=Fu.ofGr (((Gr.refl _).alloc _).trans G0) hbl
 have hlt0:w.heap.size<w0.heap.size:=(gs HBOX.out).1
 have HV0:Hid (RV w0 base g r bf bt (.slice ao r.m.length cap) O S):=V
 have q37:w0.cell? ⟨g,37,none⟩=some (.slice ao r.m.length cap):=(V.top 0).trans rfl
 clear G0 Am HV
 have V1:=V.hart (i:=33) (by omega) (set_held V.ok.h false) ⟨V.ok.h.len,V.ok.h.reg,V.ok.h.pc0,V.ok.h.pc1,V.ok.h.at0,V.ok.h.at1⟩
 have V2:=V1.hart (i:=34) (by omega) (set_heldAt V1.ok.h 0) (V.ok.h.hold false (by omega) (by omega))
 have F2:=V.fu (((Ch.refl _ _).setCell 33 (.bool false)).setCell 34 (.int .u32 0))
 have HV2:Hid (RV ((w0.setCell ⟨g,33,none⟩ (.bool false)).setCell ⟨g,34,none⟩ (.int .u32 0)) base g { r with h:=r.h.hold false 0 } bf bt (.slice ao r.m.length cap) O S):=V2
 have HF2:Hid (Fu base w0 ((w0.setCell ⟨g,33,none⟩ (.bool false)).setCell ⟨g,34,none⟩ (.int .u32 0))):=F2
 have hb2:base≤((w0.setCell ⟨g,33,none⟩ (.bool false)).setCell ⟨g,34,none⟩ (.int .u32 0)).heap.size:=Nat.le_trans V2.bg (Nat.le_of_lt V2.lt)
 have q33:=V.fld (j:=1) (by omega)
 have q34:=V.fld (j:=2) (by omega)
 have f:=V.fz
 simp at q33 q34
 clear V1 V2 F2
 rw [HH.out] at q33
 clear V q37
 go_wp2_with fail
 refine (Pt.out _ ⟨_,_,_,HV2.out⟩).mono ?_
 rintro e w3 ⟨rfl,R3,C3⟩
 have HR:Hid (Ru w3 base g ({ r with h:=r.h.hold false 0 }.put d 1) bf bt):=R3
 have HF:Hid (Fu base w w3):=(HF0.out.trans HF2.out).trans (HV2.out.fu C3)
 clear R3 C3 Pt HV0 HV2 HF2 HF0 kd HBOX q33 q34 f
 go_wp2_with fail
 refine bodyPost_ret (results_none Tryd.results76 _ _ _) rfl ?_
 exact ⟨rfl,HR.out,HF.out⟩
theorem atom_scn2 (V:Ru w base g r bf bt)(op mop d A B n:Int)(hd0:0≤d)(hd1:d<36)(hA0:0≤A)(hA1:A<36)(hB0:0≤B)(hB1:B<36)(hl:r.m.length≤4096)(hs:r.sto.length≤1000000)(hop:op=47)(ok:ldOk r.m 13 (r.get A)=true)(hh:r.h.held=true)(ha:¬r.h.heldAt=r.get A):
  Calls Tryd.prog 76 #[.pointer (some ⟨g,0,none⟩),.int .i64 op,.agg #[.int .i64 mop,.int .i64 d,.int .i64 A,.int .i64 B,.int .u32 n]] w fun e w'=>e=.returned (.tuple #[])∧Ru w' base g ({ r with h:=r.h.hold false 0 }.put d 1) bf bt∧Fu base w w':=by
 have wa:W (r.get A):=V.ok.get A
 have wb:W (r.get B):=V.ok.get B
 have hbl:=V.base_le
 have GA:Hid (∀W:World,Ru W base g r bf bt→_):=fun W V=>get_any V A hA0 hA1
 have GB:Hid (∀W:World,Ru W base g r bf bt→_):=fun W V=>get_any V B hB0 hB1
 generalize r.get A=a at *
 generalize r.get B=b at *
 obtain ⟨M,O,S,V⟩:=V
 obtain ⟨ao,cap,rfl⟩:=V.mem.form
 have L:Hid (∀W:World,Gr w W→_):=fun W G=>mo_load (V.mem.of G hbl) hl 13 a wa
 have HV:Hid (RV w base g r bf bt (.slice ao r.m.length cap) O S):=V
 have q37:w.cell? ⟨g,37,none⟩=some (.slice ao r.m.length cap):=(V.top 0).trans rfl
 have hgl:g<w.heap.size:=V.lt
 have wx:W (ldV r.m 13 a):=W.ldV r.m 13 a
 subst hop
 rw [ok] at L
 have HH:Hid (r.h.held=_):=hh
 clear hh
 have HNE:Hid ((r.h.heldAt == a)=false):=by unfold Hid;simpa using ha
 clear ha
 have Am:Hid (∀V:World,Calls Tryd.prog 103 #[.int .i64 47,.int .u32 (ldV r.m 13 a),.int .u32 b] V fun e w'=>e=.returned (.int .u32 (Wd.amo 47 (ldV r.m 13 a) b))∧Gr V w'):=fun V=>(Rw.amo_any 47 (ldV r.m 13 a) b V wx.1 wx.2 wb.1 wb.2).mono fun e w' h=>⟨h.1,by obtain ⟨m,e⟩:=h.2;rw [e];exact (Gr.refl _).drewN m⟩
 have Pt:Hid (∀W:World,Ru W base g { r with h:=r.h.hold false 0 } bf bt→_):=fun W V=>put_any V d 1 hd0 hd1 ⟨by omega,by omega⟩
 generalize Wd.amo 47 (ldV r.m 13 a) b=y at *
 generalize ldV r.m 13 a=x at *
 clear V
 go_enter Tryd.func76,Tryd.ntmps76
 go_wp2_with fail
 refine (GA.out _ ⟨_,_,_,HV.out.of ((Gr.refl _).alloc _)⟩).mono ?_
 rintro e w0 ⟨rfl,rfl⟩
 clear GA
 go_wp2_with fail
 refine (GB.out _ ⟨_,_,_,HV.out.of ((Gr.refl _).alloc _)⟩).mono ?_
 rintro e w0 ⟨rfl,rfl⟩
 clear GB
 go_wp2_with fail
 refine (L.out _ ((Gr.refl _).alloc _)).mono ?_
 rintro e w0 ⟨rfl,rfl⟩
 clear L q37
 go_wp2_with fail
 refine (Am.out _).mono ?_
 rintro e w0 ⟨rfl,G0⟩
 have V:=HV.out.of (((Gr.refl _).alloc _).trans G0)
 have HBOX:Hid (w0.heap[w.heap.size]?=some (.cells #[.int .i64 mop,.int .i64 d,.int .i64 A,.int .i64 B,.int .u32 n] 81 (0,0))):=heap_up G0 (heap_alloc_new w _)
 have kd:=cr1 HBOX.out
 have HF0:Hid (Fu base w w0):=Fu.ofGr (((Gr.refl _).alloc _).trans G0) hbl
 have hlt0:w.heap.size<w0.heap.size:=(gs HBOX.out).1
 have HV0:Hid (RV w0 base g r bf bt (.slice ao r.m.length cap) O S):=V
 have q37:w0.cell? ⟨g,37,none⟩=some (.slice ao r.m.length cap):=(V.top 0).trans rfl
 clear G0 Am HV
 have V1:=V.hart (i:=33) (by omega) (set_held V.ok.h false) ⟨V.ok.h.len,V.ok.h.reg,V.ok.h.pc0,V.ok.h.pc1,V.ok.h.at0,V.ok.h.at1⟩
 have V2:=V1.hart (i:=34) (by omega) (set_heldAt V1.ok.h 0) (V.ok.h.hold false (by omega) (by omega))
 have F2:=V.fu (((Ch.refl _ _).setCell 33 (.bool false)).setCell 34 (.int .u32 0))
 have HV2:Hid (RV ((w0.setCell ⟨g,33,none⟩ (.bool false)).setCell ⟨g,34,none⟩ (.int .u32 0)) base g { r with h:=r.h.hold false 0 } bf bt (.slice ao r.m.length cap) O S):=V2
 have HF2:Hid (Fu base w0 ((w0.setCell ⟨g,33,none⟩ (.bool false)).setCell ⟨g,34,none⟩ (.int .u32 0))):=F2
 have hb2:base≤((w0.setCell ⟨g,33,none⟩ (.bool false)).setCell ⟨g,34,none⟩ (.int .u32 0)).heap.size:=Nat.le_trans V2.bg (Nat.le_of_lt V2.lt)
 have q33:=V.fld (j:=1) (by omega)
 have q34:=V.fld (j:=2) (by omega)
 have f:=V.fz
 simp at q33 q34
 clear V1 V2 F2
 rw [HH.out] at q33
 have hne:=HNE.out
 generalize r.h.heldAt=ha2 at q34 hne
 clear HNE
 clear V q37
 go_wp2_with fail
 refine (Pt.out _ ⟨_,_,_,HV2.out⟩).mono ?_
 rintro e w3 ⟨rfl,R3,C3⟩
 have HR:Hid (Ru w3 base g ({ r with h:=r.h.hold false 0 }.put d 1) bf bt):=R3
 have HF:Hid (Fu base w w3):=(HF0.out.trans HF2.out).trans (HV2.out.fu C3)
 clear R3 C3 Pt HV0 HV2 HF2 HF0 kd HBOX q33 q34 f
 go_wp2_with fail
 refine bodyPost_ret (results_none Tryd.results76 _ _ _) rfl ?_
 exact ⟨rfl,HR.out,HF.out⟩
theorem atom_scy (V:Ru w base g r bf bt)(op mop d A B n:Int)(hd0:0≤d)(hd1:d<36)(hA0:0≤A)(hA1:A<36)(hB0:0≤B)(hB1:B<36)(hl:r.m.length≤4096)(hs:r.sto.length≤1000000)(hop:op=47)(ok:ldOk r.m 13 (r.get A)=true)(hh:r.h.held=true)(ha:r.h.heldAt=r.get A):
  Calls Tryd.prog 76 #[.pointer (some ⟨g,0,none⟩),.int .i64 op,.agg #[.int .i64 mop,.int .i64 d,.int .i64 A,.int .i64 B,.int .u32 n]] w fun e w'=>e=.returned (.tuple #[])∧Ru w' base g (({ r with h:=r.h.hold false 0,m:=stL r.m 18 (r.get A) (r.get B) }.stored bf bt (r.get A) 4).put d 0) bf bt∧Fu base w w':=by
 have wa:W (r.get A):=V.ok.get A
 have wb:W (r.get B):=V.ok.get B
 have hbl:=V.base_le
 have GA:Hid (∀W:World,Ru W base g r bf bt→_):=fun W V=>get_any V A hA0 hA1
 have GB:Hid (∀W:World,Ru W base g r bf bt→_):=fun W V=>get_any V B hB0 hB1
 generalize r.get A=a at *
 generalize r.get B=b at *
 obtain ⟨M,O,S,V⟩:=V
 obtain ⟨ao,cap,rfl⟩:=V.mem.form
 have L:Hid (∀W:World,Gr w W→_):=fun W G=>mo_load (V.mem.of G hbl) hl 13 a wa
 have HV:Hid (RV w base g r bf bt (.slice ao r.m.length cap) O S):=V
 have q37:w.cell? ⟨g,37,none⟩=some (.slice ao r.m.length cap):=(V.top 0).trans rfl
 have hgl:g<w.heap.size:=V.lt
 have wx:W (ldV r.m 13 a):=W.ldV r.m 13 a
 subst hop
 rw [ok] at L
 have HH:Hid (r.h.held=_):=hh
 have HAT:Hid (r.h.heldAt=a):=ha
 clear hh ha
 have Am:Hid (∀V:World,Calls Tryd.prog 103 #[.int .i64 47,.int .u32 (ldV r.m 13 a),.int .u32 b] V fun e w'=>e=.returned (.int .u32 (Wd.amo 47 (ldV r.m 13 a) b))∧Gr V w'):=fun V=>(Rw.amo_any 47 (ldV r.m 13 a) b V wx.1 wx.2 wb.1 wb.2).mono fun e w' h=>⟨h.1,by obtain ⟨m,e⟩:=h.2;rw [e];exact (Gr.refl _).drewN m⟩
 have St:Hid (∀V:World,MO V base (.slice ao r.m.length cap) r.m→_):=fun V h=>mo_store h hl 18 a b wa wb ok
 have Sd:Hid (∀(l:List UInt8) (V:World),Ru V base g { { r with h:=r.h.hold false 0 } with m:=l } bf bt→_):=fun l V h=>stored_any h a 4 wa (by omega) hs
 have Pt:Hid (∀(l:List UInt8) (V:World),Ru V base g ({ { r with h:=r.h.hold false 0 } with m:=l }.stored bf bt a 4) bf bt→_):=fun l V h=>put_any h d 0 hd0 hd1 ⟨by omega,by omega⟩
 generalize stL r.m 18 a b=l2 at *
 generalize Wd.amo 47 (ldV r.m 13 a) b=y at *
 generalize ldV r.m 13 a=x at *
 clear V
 go_enter Tryd.func76,Tryd.ntmps76
 go_wp2_with fail
 refine (GA.out _ ⟨_,_,_,HV.out.of ((Gr.refl _).alloc _)⟩).mono ?_
 rintro e w0 ⟨rfl,rfl⟩
 clear GA
 go_wp2_with fail
 refine (GB.out _ ⟨_,_,_,HV.out.of ((Gr.refl _).alloc _)⟩).mono ?_
 rintro e w0 ⟨rfl,rfl⟩
 clear GB
 go_wp2_with fail
 refine (L.out _ ((Gr.refl _).alloc _)).mono ?_
 rintro e w0 ⟨rfl,rfl⟩
 clear L q37
 go_wp2_with fail
 refine (Am.out _).mono ?_
 rintro e w0 ⟨rfl,G0⟩
 have V:=HV.out.of (((Gr.refl _).alloc _).trans G0)
 have HBOX:Hid (w0.heap[w.heap.size]?=some (.cells #[.int .i64 mop,.int .i64 d,.int .i64 A,.int .i64 B,.int .u32 n] 81 (0,0))):=heap_up G0 (heap_alloc_new w _)
 have kd:=cr1 HBOX.out
 have HF0:Hid (Fu base w w0):=Fu.ofGr (((Gr.refl _).alloc _).trans G0) hbl
 have hlt0:w.heap.size<w0.heap.size:=(gs HBOX.out).1
 have HV0:Hid (RV w0 base g r bf bt (.slice ao r.m.length cap) O S):=V
 have q37:w0.cell? ⟨g,37,none⟩=some (.slice ao r.m.length cap):=(V.top 0).trans rfl
 clear G0 Am HV
 have V1:=V.hart (i:=33) (by omega) (set_held V.ok.h false) ⟨V.ok.h.len,V.ok.h.reg,V.ok.h.pc0,V.ok.h.pc1,V.ok.h.at0,V.ok.h.at1⟩
 have V2:=V1.hart (i:=34) (by omega) (set_heldAt V1.ok.h 0) (V.ok.h.hold false (by omega) (by omega))
 have F2:=V.fu (((Ch.refl _ _).setCell 33 (.bool false)).setCell 34 (.int .u32 0))
 have HV2:Hid (RV ((w0.setCell ⟨g,33,none⟩ (.bool false)).setCell ⟨g,34,none⟩ (.int .u32 0)) base g { r with h:=r.h.hold false 0 } bf bt (.slice ao r.m.length cap) O S):=V2
 have HF2:Hid (Fu base w0 ((w0.setCell ⟨g,33,none⟩ (.bool false)).setCell ⟨g,34,none⟩ (.int .u32 0))):=F2
 have hb2:base≤((w0.setCell ⟨g,33,none⟩ (.bool false)).setCell ⟨g,34,none⟩ (.int .u32 0)).heap.size:=Nat.le_trans V2.bg (Nat.le_of_lt V2.lt)
 have q33:=V.fld (j:=1) (by omega)
 have q34:=V.fld (j:=2) (by omega)
 have f:=V.fz
 simp at q33 q34
 clear V1 V2 F2
 rw [HH.out] at q33
 rw [HAT.out] at q34
 clear V HAT HH
 go_wp2_with fail
 refine (St.out _ HV2.out.mem).mono ?_
 rintro e w2 ⟨k,c,rfl,M2,G2⟩
 have V3:=HV2.out.of G2
 have V4:=V3.setM M2
 have z1:w2.cell? ⟨g,37,none⟩=some (.slice ao r.m.length cap):=(V3.top 0).trans rfl
 have z2:=V3.fz 37
 have HBX:Hid (w2.heap[w.heap.size]?=some (.cells #[.int .i64 mop,.int .i64 d,.int .i64 A,.int .i64 B,.int .u32 n] 81 (0,0))):=heap_up G2 (HF2.out.box HBOX.out)
 have HV4:Hid (RV (w2.setCell ⟨g,37,none⟩ (.slice (some ⟨k,0,none⟩) r.m.length c)) base g { { r with h:=r.h.hold false 0 } with m:=l2 } bf bt (.slice (some ⟨k,0,none⟩) r.m.length c) O S):=V4
 have F3:=V3.fu ((Ch.refl _ _).setCell 37 (.slice (some ⟨k,0,none⟩) r.m.length c))
 have HBX4:Hid ((w2.setCell ⟨g,37,none⟩ (.slice (some ⟨k,0,none⟩) r.m.length c)).heap[w.heap.size]?=some (.cells #[.int .i64 mop,.int .i64 d,.int .i64 A,.int .i64 B,.int .u32 n] 81 (0,0))):=F3.box HBX.out
 have HF4:Hid (Fu base w (w2.setCell ⟨g,37,none⟩ (.slice (some ⟨k,0,none⟩) r.m.length c))):=((HF0.out.trans HF2.out).trans (Fu.ofGr G2 (Nat.le_trans HV2.out.bg (Nat.le_of_lt HV2.out.lt)))).trans F3
 clear V3 V4 M2 G2 F3 St HBX HBOX kd q37
 go_wp2_with fail
 clear z1 z2
 generalize w2.setCell ⟨g,37,none⟩ (.slice (some ⟨k,0,none⟩) r.m.length c)=w4 at *
 refine (Sd.out l2 _ ⟨_,_,_,HV4.out⟩).mono ?_
 rintro e w5 ⟨rfl,R5,F5⟩
 have HR5:Hid (Ru w5 base g ({ { r with h:=r.h.hold false 0 } with m:=l2 }.stored bf bt a 4) bf bt):=R5
 have HB5:=F5.box HBX4.out
 have k1:=cr1 HB5
 have HF5:Hid (Fu base w w5):=HF4.out.trans F5
 clear R5 F5 HB5 Sd HV4 HF4 HBX4
 go_wp2_with fail
 refine (Pt.out l2 _ HR5.out).mono ?_
 rintro e w6 ⟨rfl,R6,C6⟩
 have HR:Hid (Ru w6 base g (({ { r with h:=r.h.hold false 0 } with m:=l2 }.stored bf bt a 4).put d 0) bf bt):=R6
 have HF:Hid (Fu base w w6):=HF5.out.trans (HR5.out.fu C6)
 clear R6 C6 Pt HR5 HF5 k1
 go_wp2_with fail
 go_end0
 exact ⟨rfl,HR.out,HF.out⟩
theorem atom_amo (V:Ru w base g r bf bt)(op mop d A B n:Int)(hd0:0≤d)(hd1:d<36)(hA0:0≤A)(hA1:A<36)(hB0:0≤B)(hB1:B<36)(hl:r.m.length≤4096)(hs:r.sto.length≤1000000)(hop:¬op=46)(hop2:¬op=47)(ok:ldOk r.m 13 (r.get A)=true):
  Calls Tryd.prog 76 #[.pointer (some ⟨g,0,none⟩),.int .i64 op,.agg #[.int .i64 mop,.int .i64 d,.int .i64 A,.int .i64 B,.int .u32 n]] w fun e w'=>e=.returned (.tuple #[])∧Ru w' base g (({ r with m:=stL r.m 18 (r.get A) (Wd.amo op (ldV r.m 13 (r.get A)) (r.get B)) }.stored bf bt (r.get A) 4).put d (ldV r.m 13 (r.get A))) bf bt∧Fu base w w':=by
 have wa:W (r.get A):=V.ok.get A
 have wb:W (r.get B):=V.ok.get B
 have hbl:=V.base_le
 have GA:Hid (∀W:World,Ru W base g r bf bt→_):=fun W V=>get_any V A hA0 hA1
 have GB:Hid (∀W:World,Ru W base g r bf bt→_):=fun W V=>get_any V B hB0 hB1
 generalize r.get A=a at *
 generalize r.get B=b at *
 obtain ⟨M,O,S,V⟩:=V
 obtain ⟨ao,cap,rfl⟩:=V.mem.form
 have L:Hid (∀W:World,Gr w W→_):=fun W G=>mo_load (V.mem.of G hbl) hl 13 a wa
 have HV:Hid (RV w base g r bf bt (.slice ao r.m.length cap) O S):=V
 have q37:w.cell? ⟨g,37,none⟩=some (.slice ao r.m.length cap):=(V.top 0).trans rfl
 have hgl:g<w.heap.size:=V.lt
 have wx:W (ldV r.m 13 a):=W.ldV r.m 13 a
 have hb46:(op == 46)=false:=by simpa using hop
 have hb47:(op == 47)=false:=by simpa using hop2
 rw [ok] at L
 have Am:Hid (∀V:World,Calls Tryd.prog 103 #[.int .i64 op,.int .u32 (ldV r.m 13 a),.int .u32 b] V fun e w'=>e=.returned (.int .u32 (Wd.amo op (ldV r.m 13 a) b))∧Gr V w'):=fun V=>(Rw.amo_any op (ldV r.m 13 a) b V wx.1 wx.2 wb.1 wb.2).mono fun e w' h=>⟨h.1,by obtain ⟨m,e⟩:=h.2;rw [e];exact (Gr.refl _).drewN m⟩
 have St:Hid (∀V:World,MO V base (.slice ao r.m.length cap) r.m→_):=fun V h=>mo_store h hl 18 a (Wd.amo op (ldV r.m 13 a) b) wa (W.amo wx wb) ok
 have Sd:Hid (∀(l:List UInt8) (V:World),Ru V base g { r with m:=l } bf bt→_):=fun l V h=>stored_any h a 4 wa (by omega) hs
 have Pt:Hid (∀(l:List UInt8) (V:World),Ru V base g ({ r with m:=l }.stored bf bt a 4) bf bt→_):=fun l V h=>put_any h d (ldV r.m 13 a) hd0 hd1 wx
 generalize stL r.m 18 a (Wd.amo op (ldV r.m 13 a) b)=l2 at *
 generalize Wd.amo op (ldV r.m 13 a) b=y at *
 generalize ldV r.m 13 a=x at *
 clear hop hop2
 clear V
 go_enter Tryd.func76,Tryd.ntmps76
 go_wp2_with fail
 refine (GA.out _ ⟨_,_,_,HV.out.of ((Gr.refl _).alloc _)⟩).mono ?_
 rintro e w0 ⟨rfl,rfl⟩
 clear GA
 go_wp2_with fail
 refine (GB.out _ ⟨_,_,_,HV.out.of ((Gr.refl _).alloc _)⟩).mono ?_
 rintro e w0 ⟨rfl,rfl⟩
 clear GB
 go_wp2_with fail
 refine (L.out _ ((Gr.refl _).alloc _)).mono ?_
 rintro e w0 ⟨rfl,rfl⟩
 clear L q37
 go_wp2_with fail
 refine (Am.out _).mono ?_
 rintro e w0 ⟨rfl,G0⟩
 have V:=HV.out.of (((Gr.refl _).alloc _).trans G0)
 have HBOX:Hid (w0.heap[w.heap.size]?=some (.cells #[.int .i64 mop,.int .i64 d,.int .i64 A,.int .i64 B,.int .u32 n] 81 (0,0))):=heap_up G0 (heap_alloc_new w _)
 have kd:=cr1 HBOX.out
 have HF0:Hid (Fu base w w0):=Fu.ofGr (((Gr.refl _).alloc _).trans G0) hbl
 have hlt0:w.heap.size<w0.heap.size:=(gs HBOX.out).1
 have HV0:Hid (RV w0 base g r bf bt (.slice ao r.m.length cap) O S):=V
 have q37:w0.cell? ⟨g,37,none⟩=some (.slice ao r.m.length cap):=(V.top 0).trans rfl
 clear G0 Am HV
 clear V
 go_wp2_with fail
 refine (St.out _ HV0.out.mem).mono ?_
 rintro e w2 ⟨k,c,rfl,M2,G2⟩
 have V3:=HV0.out.of G2
 have V4:=V3.setM M2
 have z1:w2.cell? ⟨g,37,none⟩=some (.slice ao r.m.length cap):=(V3.top 0).trans rfl
 have z2:=V3.fz 37
 have HBX:Hid (w2.heap[w.heap.size]?=some (.cells #[.int .i64 mop,.int .i64 d,.int .i64 A,.int .i64 B,.int .u32 n] 81 (0,0))):=heap_up G2 HBOX.out
 have HV4:Hid (RV (w2.setCell ⟨g,37,none⟩ (.slice (some ⟨k,0,none⟩) r.m.length c)) base g { r with m:=l2 } bf bt (.slice (some ⟨k,0,none⟩) r.m.length c) O S):=V4
 have F3:=V3.fu ((Ch.refl _ _).setCell 37 (.slice (some ⟨k,0,none⟩) r.m.length c))
 have HBX4:Hid ((w2.setCell ⟨g,37,none⟩ (.slice (some ⟨k,0,none⟩) r.m.length c)).heap[w.heap.size]?=some (.cells #[.int .i64 mop,.int .i64 d,.int .i64 A,.int .i64 B,.int .u32 n] 81 (0,0))):=F3.box HBX.out
 have HF4:Hid (Fu base w (w2.setCell ⟨g,37,none⟩ (.slice (some ⟨k,0,none⟩) r.m.length c))):=(HF0.out.trans (Fu.ofGr G2 (Nat.le_trans HV0.out.bg (Nat.le_of_lt HV0.out.lt)))).trans F3
 clear V3 V4 M2 G2 F3 St HBX HBOX kd q37
 go_wp2_with fail
 clear z1 z2
 generalize w2.setCell ⟨g,37,none⟩ (.slice (some ⟨k,0,none⟩) r.m.length c)=w4 at *
 refine (Sd.out l2 _ ⟨_,_,_,HV4.out⟩).mono ?_
 rintro e w5 ⟨rfl,R5,F5⟩
 have HR5:Hid (Ru w5 base g ({ r with m:=l2 }.stored bf bt a 4) bf bt):=R5
 have HB5:=F5.box HBX4.out
 have k1:=cr1 HB5
 have HF5:Hid (Fu base w w5):=HF4.out.trans F5
 clear R5 F5 HB5 Sd HV4 HF4 HBX4
 go_wp2_with fail
 refine (Pt.out l2 _ HR5.out).mono ?_
 rintro e w6 ⟨rfl,R6,C6⟩
 have HR:Hid (Ru w6 base g (({ r with m:=l2 }.stored bf bt a 4).put d x) bf bt):=R6
 have HF:Hid (Fu base w w6):=HF5.out.trans (HR5.out.fu C6)
 clear R6 C6 Pt HR5 HF5 k1
 go_wp2_with fail
 go_end0
 exact ⟨rfl,HR.out,HF.out⟩
theorem atom_any (V:Ru w base g r bf bt)(op mop d A B n:Int)(hd0:0≤d)(hd1:d<36)(hA0:0≤A)(hA1:A<36)(hB0:0≤B)(hB1:B<36)(hl:r.m.length≤4096)(hs:r.sto.length≤1000000):
  Calls Tryd.prog 76 #[.pointer (some ⟨g,0,none⟩),.int .i64 op,.agg #[.int .i64 mop,.int .i64 d,.int .i64 A,.int .i64 B,.int .u32 n]] w fun e w'=>e=.returned (.tuple #[])∧Ru w' base g (mAtom bf bt r op (r.get A) (r.get B) d) bf bt∧Fu base w w':=by
 unfold mAtom
 by_cases h46:op=46
 ·rw [if_pos h46]
  unfold mLr
  cases ok:ldOk r.m 13 (r.get A) with
  | false=>rw [if_neg (by simp)];exact atom_lrno V op mop d A B n hd0 hd1 hA0 hA1 hB0 hB1 hl hs h46 ok
  | true=>rw [if_pos rfl];exact atom_lr V op mop d A B n hd0 hd1 hA0 hA1 hB0 hB1 hl hs h46 ok
 ·rw [if_neg h46]
  by_cases h47:op=47
  ·rw [if_pos h47]
   unfold mSc
   cases ok:ldOk r.m 13 (r.get A) with
   | false=>rw [if_neg (by simp)];exact atom_no V op mop d A B n hd0 hd1 hA0 hA1 hB0 hB1 hl hs h46 ok
   | true=>
    rw [if_pos rfl]
    cases hh:r.h.held with
    | false=>rw [if_neg (by simp)];exact atom_scn1 V op mop d A B n hd0 hd1 hA0 hA1 hB0 hB1 hl hs h47 ok hh
    | true=>
     by_cases ha:r.h.heldAt=r.get A
     ·rw [if_pos ⟨rfl,ha⟩];exact atom_scy V op mop d A B n hd0 hd1 hA0 hA1 hB0 hB1 hl hs h47 ok hh ha
     ·rw [if_neg (fun h=>ha h.2)];exact atom_scn2 V op mop d A B n hd0 hd1 hA0 hA1 hB0 hB1 hl hs h47 ok hh ha
  ·rw [if_neg h47]
   unfold mAmo
   cases ok:ldOk r.m 13 (r.get A) with
   | false=>rw [if_neg (by simp)];exact atom_no V op mop d A B n hd0 hd1 hA0 hA1 hB0 hB1 hl hs h46 ok
   | true=>rw [if_pos rfl];exact atom_amo V op mop d A B n hd0 hd1 hA0 hA1 hB0 hB1 hl hs h46 h47 ok
end Go.Proofs.YtkdghgiajifbdaaDoor.Mi
