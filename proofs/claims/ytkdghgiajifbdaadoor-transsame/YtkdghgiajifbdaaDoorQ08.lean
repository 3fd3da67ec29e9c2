/-
  Rm4: texts of ours that lie in one file.
-/
import Derived.Test.YtkdghgiajifbdaaDoorQ07
set_option linter.unusedVariables false
set_option linter.unusedSimpArgs false
set_option maxHeartbeats 8000000
set_option maxRecDepth 100000
namespace Go.Proofs.YtkdghgiajifbdaaDoor.Mi
open Go.ChangeShapes Go.WideShapes Go.ChangeAt Go.RowKit Mm Hh Hc

variable {w : World} {base g : Nat} {r : Rn} {bf bt : Int} {M O S : Value}
theorem RV.setN (V:RV w base g r bf bt M O S)(k:Nat):RV (w.setCell ⟨g,39,none⟩ (.int .i64 k)) base g { r with n:=k } bf bt M O S:=
 V.set (uA_setT (r':={ r with n:=k }) (j:=2) V.ok rfl rfl) ⟨V.ok.h,V.ok.tl,V.ok.tb,V.ok.h0,V.ok.h1⟩ rfl rfl rfl
theorem RV.setHere (V:RV w base g r bf bt M O S){x:Int}(hx:W x):RV (w.setCell ⟨g,45,none⟩ (.int .u32 x)) base g { r with here:=x } bf bt M O S:=
 V.set (uA_setT (r':={ r with here:=x }) (j:=8+0) V.ok rfl (uT_setF V.ok rfl rfl rfl)) ⟨V.ok.h,V.ok.tl,V.ok.tb,hx.1,hx.2⟩ rfl rfl rfl
theorem RV.appO {w1 w2:World}{v:Value}(V:RV w base g r bf bt M O S)(G:Gr w w1)(q:w1.grownBy w2 O.ownBlock){os:List Int}(hown:w2.ownsRow base 24 1 v os.length (os.map (Value.int .u32))):
  w2.cell? ⟨g,38,none⟩=some O∧w2.frozen? ⟨g,38,none⟩=false∧RV (w2.setCell ⟨g,38,none⟩ v) base g { r with out:=os } bf bt M v S∧Fu base w (w2.setCell ⟨g,38,none⟩ v):=by
 have V1:=V.of G
 have st:∀{t:Nat},t≠24→∀{k:Nat} {o:Array Value} {f:Nat×Nat},w1.heap[k]?=some (.cells o t f)→w2.heap[k]?=w1.heap[k]?:=fun ht _ _ _ hk=>grown_at V1.out q ht hk
 have hb:=(st (by decide) V1.blk).trans V1.blk
 have ne:∀{t:Nat},t≠91→∀{k:Nat} {o:Array Value} {f:Nat×Nat},w2.heap[k]?=some (.cells o t f)→(w2.setCell ⟨g,38,none⟩ v).heap[k]?=w2.heap[k]?:=fun ht _ _ _ hk=>hso (by exact ne_of_types hk hb ht)
 have two:∀{t:Nat},t≠91→t≠24→∀{k:Nat} {o:Array Value} {f:Nat×Nat},w1.heap[k]?=some (.cells o t f)→(w2.setCell ⟨g,38,none⟩ v).heap[k]?=w1.heap[k]?:=fun h1 h2 _ _ _ hk=>by
  have e:=st h2 hk
  exact (ne h1 (e.trans hk)).trans e
 have hbase:base≤w1.heap.size:=Nat.le_trans V1.bg (Nat.le_of_lt V1.lt)
 have bl:Below base w1 (w2.setCell ⟨g,38,none⟩ v):=Below.setCell ((Below.refl base w1).grown q hbase fun k e=>(V1.out.lt k e).1) (by exact V1.bg) _
 refine ⟨(cr hb).trans ((uA_t V.ok 1).trans rfl),fzr hb,⟨⟨V.ok.h,V.ok.tl,V.ok.tb,V.ok.h0,V.ok.h1⟩,V.bg,?_,V1.mem.keep (fun k hk=>bl.block k hk) (fun k o f hk=>two (by decide) (by decide) hk),owns_to hown fun k o f hk=>ne (by decide) hk,owns_to V1.sto fun k o f hk=>two (by decide) (by decide) hk⟩,?_⟩
 ·rw [hss hb,uA_setT (r':={ r with out:=os }) (M':=M) (O':=v) (S':=S) (j:=1) V.ok rfl rfl]
 ·refine (Fu.ofGr G (Nat.le_trans V.bg (Nat.le_of_lt V.lt))).trans ⟨bl,fun k o t f e n1 n2 n3=>two n1 n2 e⟩
theorem one_at1 (V:Ru w base g r bf bt)(d A B n steps:Int)(hd0:0≤d)(hd1:d<36)(hA0:0≤A)(hA1:A<36)(hB0:0≤B)(hB1:B<36)(hn:W n)(hl:r.m.length≤4096)(hs:r.sto.length≤1000000)(ho:r.out.length≤1000000)(hc:r.n≤1000000)(hst:(r.n:Int)=steps):
  Calls Tryd.prog 40 #[.pointer (some ⟨g,0,none⟩),.agg #[.int .i64 1,.int .i64 d,.int .i64 A,.int .i64 B,.int .u32 n],.int .i64 steps] w fun e w'=>e=.returned (.tuple #[])∧Ru w' base g (r.stop n) bf bt∧Fu base w w':=by
 have hbl:=V.base_le
 have HRu:Hid (Ru w base g r bf bt):=V
 obtain ⟨M,O,S,V⟩:=V
 have HV:Hid (RV w base g r bf bt M O S):=V
 have hgl:g<w.heap.size:=V.lt
 have q39:w.cell? ⟨g,39,none⟩=some (.int .i64 r.n):=(V.top 2).trans rfl
 subst hst
 have St:Hid (∀V:World,Ru V base g r bf bt→Calls Tryd.prog 68 #[.pointer (some ⟨g,0,none⟩),.int .u32 n] V fun e w'=>e=.returned (.tuple #[])∧Ru w' base g (r.stop n) bf bt∧Ch g V w'):=fun V h=>stop_any h n hn
 clear V
 go_enter Tryd.func40,Tryd.ntmps40
 go_wp2_with fail
 refine (St.out _ (HRu.out.of ((Gr.refl _).alloc _))).mono ?_
 rintro e w3 ⟨rfl,R3,C3⟩
 have HR:Hid (Ru w3 base g (r.stop n) bf bt):=R3
 have HF:Hid (Fu base w w3):=(Fu.ofGr ((Gr.refl _).alloc _) hbl).trans ((HRu.out.of ((Gr.refl _).alloc _)).fu C3)
 clear R3 C3 St HV HRu
 go_wp2_with fail
 refine bodyPost_ret (results_none Tryd.results40 _ _ _) rfl ?_
 exact ⟨rfl,HR.out,HF.out⟩
theorem one_at2 (V:Ru w base g r bf bt)(d A B n steps:Int)(hd0:0≤d)(hd1:d<36)(hA0:0≤A)(hA1:A<36)(hB0:0≤B)(hB1:B<36)(hn:W n)(hl:r.m.length≤4096)(hs:r.sto.length≤1000000)(ho:r.out.length≤1000000)(hc:r.n≤1000000)(hst:¬(r.n:Int)=steps)(how:r.own=true):
  Calls Tryd.prog 40 #[.pointer (some ⟨g,0,none⟩),.agg #[.int .i64 1,.int .i64 d,.int .i64 A,.int .i64 B,.int .u32 n],.int .i64 steps] w fun e w'=>e=.returned (.tuple #[])∧Ru w' base g (r.stop n) bf bt∧Fu base w w':=by
 have hbl:=V.base_le
 have HRu:Hid (Ru w base g r bf bt):=V
 obtain ⟨M,O,S,V⟩:=V
 have HV:Hid (RV w base g r bf bt M O S):=V
 have hgl:g<w.heap.size:=V.lt
 have q39:w.cell? ⟨g,39,none⟩=some (.int .i64 r.n):=(V.top 2).trans rfl
 have q46:w.cell? ⟨g,46,none⟩=some (.bool true):=by rw [←how];exact (V.last 1).trans rfl
 have hb:((r.n:Int) == steps)=false:=by simpa using hst
 have St:Hid (∀V:World,Ru V base g r bf bt→Calls Tryd.prog 68 #[.pointer (some ⟨g,0,none⟩),.int .u32 n] V fun e w'=>e=.returned (.tuple #[])∧Ru w' base g (r.stop n) bf bt∧Ch g V w'):=fun V h=>stop_any h n hn
 clear V how hst
 generalize (r.n:Int)=rn at *
 go_enter Tryd.func40,Tryd.ntmps40
 go_wp2_with fail
 refine (St.out _ (HRu.out.of ((Gr.refl _).alloc _))).mono ?_
 rintro e w3 ⟨rfl,R3,C3⟩
 have HR:Hid (Ru w3 base g (r.stop n) bf bt):=R3
 have HF:Hid (Fu base w w3):=(Fu.ofGr ((Gr.refl _).alloc _) hbl).trans ((HRu.out.of ((Gr.refl _).alloc _)).fu C3)
 clear R3 C3 St HV HRu
 go_wp2_with fail
 refine bodyPost_ret (results_none Tryd.results40 _ _ _) rfl ?_
 exact ⟨rfl,HR.out,HF.out⟩
theorem one_at3 (V:Ru w base g r bf bt)(d A B n steps:Int)(hd0:0≤d)(hd1:d<36)(hA0:0≤A)(hA1:A<36)(hB0:0≤B)(hB1:B<36)(hn:W n)(hl:r.m.length≤4096)(hs:r.sto.length≤1000000)(ho:r.out.length≤1000000)(hc:r.n≤1000000)(hst:¬(r.n:Int)=steps)(how:r.own=false):
  Calls Tryd.prog 40 #[.pointer (some ⟨g,0,none⟩),.agg #[.int .i64 1,.int .i64 d,.int .i64 A,.int .i64 B,.int .u32 n],.int .i64 steps] w fun e w'=>e=.returned (.tuple #[])∧Ru w' base g ({ r with n:=r.n+1,here:=n }) bf bt∧Fu base w w':=by
 have hbl:=V.base_le
 have HRu:Hid (Ru w base g r bf bt):=V
 obtain ⟨M,O,S,V⟩:=V
 have HV:Hid (RV w base g r bf bt M O S):=V
 have hgl:g<w.heap.size:=V.lt
 have q39:w.cell? ⟨g,39,none⟩=some (.int .i64 r.n):=(V.top 2).trans rfl
 have q46:w.cell? ⟨g,46,none⟩=some (.bool false):=by rw [←how];exact (V.last 1).trans rfl
 have q45:w.cell? ⟨g,45,none⟩=some (.int .u32 r.here):=(V.last 0).trans rfl
 have f:=V.fz
 have hb:((r.n:Int) == steps)=false:=by simpa using hst
 have V2:=(V.setN (r.n+1)).setHere hn
 have F2:=V.fu (((Ch.refl g w).setCell 39 (.int .i64 ((r.n+1:Nat):Int))).setCell 45 (.int .u32 n))
 have HV2:Hid (RV ((w.setCell ⟨g,39,none⟩ (.int .i64 ((r.n:Int)+1))).setCell ⟨g,45,none⟩ (.int .u32 n)) base g { r with n:=r.n+1,here:=n } bf bt M O S):=V2
 have HF2:Hid (Fu base w ((w.setCell ⟨g,39,none⟩ (.int .i64 ((r.n:Int)+1))).setCell ⟨g,45,none⟩ (.int .u32 n))):=F2
 have hb2:base≤((w.setCell ⟨g,39,none⟩ (.int .i64 ((r.n:Int)+1))).setCell ⟨g,45,none⟩ (.int .u32 n)).heap.size:=Nat.le_trans V2.bg (Nat.le_of_lt V2.lt)
 clear V how hst V2 F2
 go_enter Tryd.func40,Tryd.ntmps40
 go_wp2_with fail
 refine bodyPost_ret (results_none Tryd.results40 _ _ _) rfl ?_
 exact ⟨rfl,⟨_,_,_,HV2.out.of ((Gr.refl _).alloc _)⟩,HF2.out.trans (Fu.ofGr ((Gr.refl _).alloc _) hb2)⟩
theorem one_set (V:Ru w base g r bf bt)(d A B n steps:Int)(hd0:0≤d)(hd1:d<36)(hA0:0≤A)(hA1:A<36)(hB0:0≤B)(hB1:B<36)(hn:W n)(hl:r.m.length≤4096)(hs:r.sto.length≤1000000)(ho:r.out.length≤1000000)(hc:r.n≤1000000)  :
  Calls Tryd.prog 40 #[.pointer (some ⟨g,0,none⟩),.agg #[.int .i64 2,.int .i64 d,.int .i64 A,.int .i64 B,.int .u32 n],.int .i64 steps] w fun e w'=>e=.returned (.tuple #[])∧Ru w' base g (r.put d n) bf bt∧Fu base w w':=by
 have hbl:=V.base_le
 have HRu:Hid (Ru w base g r bf bt):=V
 obtain ⟨M,O,S,V⟩:=V
 have HV:Hid (RV w base g r bf bt M O S):=V
 have hgl:g<w.heap.size:=V.lt
 have St:Hid (∀V:World,Ru V base g r bf bt→Calls Tryd.prog 69 #[.pointer (some ⟨g,0,none⟩),.int .i64 d,.int .u32 n] V fun e w'=>e=.returned (.tuple #[])∧Ru w' base g (r.put d n) bf bt∧Ch g V w'):=fun V h=>put_any h d n hd0 hd1 hn
 clear V
 go_enter Tryd.func40,Tryd.ntmps40
 go_wp2_with fail
 refine (St.out _ (HRu.out.of ((Gr.refl _).alloc _))).mono ?_
 rintro e w3 ⟨rfl,R3,C3⟩
 have HR:Hid (Ru w3 base g (r.put d n) bf bt):=R3
 have HF:Hid (Fu base w w3):=(Fu.ofGr ((Gr.refl _).alloc _) hbl).trans ((HRu.out.of ((Gr.refl _).alloc _)).fu C3)
 clear R3 C3 St HV HRu
 go_wp2_with fail
 refine bodyPost_ret (results_none Tryd.results40 _ _ _) rfl ?_
 exact ⟨rfl,HR.out,HF.out⟩
theorem one_go (V:Ru w base g r bf bt)(d A B n steps:Int)(hd0:0≤d)(hd1:d<36)(hA0:0≤A)(hA1:A<36)(hB0:0≤B)(hB1:B<36)(hn:W n)(hl:r.m.length≤4096)(hs:r.sto.length≤1000000)(ho:r.out.length≤1000000)(hc:r.n≤1000000)  :
  Calls Tryd.prog 40 #[.pointer (some ⟨g,0,none⟩),.agg #[.int .i64 3,.int .i64 d,.int .i64 A,.int .i64 B,.int .u32 n],.int .i64 steps] w fun e w'=>e=.returned (.tuple #[])∧Ru w' base g (r.stop n) bf bt∧Fu base w w':=by
 have hbl:=V.base_le
 have HRu:Hid (Ru w base g r bf bt):=V
 obtain ⟨M,O,S,V⟩:=V
 have HV:Hid (RV w base g r bf bt M O S):=V
 have hgl:g<w.heap.size:=V.lt
 have St:Hid (∀V:World,Ru V base g r bf bt→Calls Tryd.prog 68 #[.pointer (some ⟨g,0,none⟩),.int .u32 n] V fun e w'=>e=.returned (.tuple #[])∧Ru w' base g (r.stop n) bf bt∧Ch g V w'):=fun V h=>stop_any h n hn
 clear V
 go_enter Tryd.func40,Tryd.ntmps40
 go_wp2_with fail
 refine (St.out _ (HRu.out.of ((Gr.refl _).alloc _))).mono ?_
 rintro e w3 ⟨rfl,R3,C3⟩
 have HR:Hid (Ru w3 base g (r.stop n) bf bt):=R3
 have HF:Hid (Fu base w w3):=(Fu.ofGr ((Gr.refl _).alloc _) hbl).trans ((HRu.out.of ((Gr.refl _).alloc _)).fu C3)
 clear R3 C3 St HV HRu
 go_wp2_with fail
 refine bodyPost_ret (results_none Tryd.results40 _ _ _) rfl ?_
 exact ⟨rfl,HR.out,HF.out⟩
theorem one_break (V:Ru w base g r bf bt)(d A B n steps:Int)(hd0:0≤d)(hd1:d<36)(hA0:0≤A)(hA1:A<36)(hB0:0≤B)(hB1:B<36)(hn:W n)(hl:r.m.length≤4096)(hs:r.sto.length≤1000000)(ho:r.out.length≤1000000)(hc:r.n≤1000000)  :
  Calls Tryd.prog 40 #[.pointer (some ⟨g,0,none⟩),.agg #[.int .i64 6,.int .i64 d,.int .i64 A,.int .i64 B,.int .u32 n],.int .i64 steps] w fun e w'=>e=.returned (.tuple #[])∧Ru w' base g (r.trap 6) bf bt∧Fu base w w':=by
 have hbl:=V.base_le
 have HRu:Hid (Ru w base g r bf bt):=V
 obtain ⟨M,O,S,V⟩:=V
 have HV:Hid (RV w base g r bf bt M O S):=V
 have hgl:g<w.heap.size:=V.lt
 have St:Hid (∀V:World,Ru V base g r bf bt→Calls Tryd.prog 71 #[.pointer (some ⟨g,0,none⟩),.int .i64 6] V fun e w'=>e=.returned (.tuple #[])∧Ru w' base g (r.trap 6) bf bt∧Ch g V w'):=fun V h=>rtrap_any h 6
 clear V
 go_enter Tryd.func40,Tryd.ntmps40
 go_wp2_with fail
 refine (St.out _ (HRu.out.of ((Gr.refl _).alloc _))).mono ?_
 rintro e w3 ⟨rfl,R3,C3⟩
 have HR:Hid (Ru w3 base g (r.trap 6) bf bt):=R3
 have HF:Hid (Fu base w w3):=(Fu.ofGr ((Gr.refl _).alloc _) hbl).trans ((HRu.out.of ((Gr.refl _).alloc _)).fu C3)
 clear R3 C3 St HV HRu
 go_wp2_with fail
 refine bodyPost_ret (results_none Tryd.results40 _ _ _) rfl ?_
 exact ⟨rfl,HR.out,HF.out⟩
theorem one_goreg (V:Ru w base g r bf bt)(d A B n steps:Int)(hd0:0≤d)(hd1:d<36)(hA0:0≤A)(hA1:A<36)(hB0:0≤B)(hB1:B<36)(hn:W n)(hl:r.m.length≤4096)(hs:r.sto.length≤1000000)(ho:r.out.length≤1000000)(hc:r.n≤1000000)  :
  Calls Tryd.prog 40 #[.pointer (some ⟨g,0,none⟩),.agg #[.int .i64 4,.int .i64 d,.int .i64 A,.int .i64 B,.int .u32 n],.int .i64 steps] w fun e w'=>e=.returned (.tuple #[])∧Ru w' base g (r.stop (Wd.lo (r.get A+n)-Wd.lo (r.get A+n)%2)) bf bt∧Fu base w w':=by
 have hbl:=V.base_le
 have HRu:Hid (Ru w base g r bf bt):=V
 obtain ⟨M,O,S,V⟩:=V
 have HV:Hid (RV w base g r bf bt M O S):=V
 have hgl:g<w.heap.size:=V.lt
 have wa:W (r.get A):=V.ok.get A
 have GA:Hid (∀V:World,Ru V base g r bf bt→Calls Tryd.prog 70 #[.pointer (some ⟨g,0,none⟩),.int .i64 A] V fun e w'=>e=.returned (.int .u32 (r.get A))∧w'=V):=fun V h=>get_any h A hA0 hA1
 have wl:=W.lo (r.get A+n)
 have wp:W (Wd.lo (r.get A+n)-Wd.lo (r.get A+n)%2):=by unfold W at *;omega
 have St:Hid (∀V:World,Ru V base g r bf bt→Calls Tryd.prog 68 #[.pointer (some ⟨g,0,none⟩),.int .u32 (Wd.lo (r.get A+n)-Wd.lo (r.get A+n)%2)] V fun e w'=>e=.returned (.tuple #[])∧Ru w' base g (r.stop (Wd.lo (r.get A+n)-Wd.lo (r.get A+n)%2)) bf bt∧Ch g V w'):=fun V h=>stop_any h _ wp
 have Sm:Hid (∀V:World,Calls Tryd.prog 41 #[.int .u32 (r.get A),.int .u32 n] V fun e w'=>e=.returned (.int .u32 (Wd.lo (r.get A+n)))∧w'=V):=fun V=>sum_any (r.get A) n V wa hn
 have hw0:=wl.1
 have hw1:=wl.2
 clear wp wl wa
 generalize Wd.lo (r.get A+n)=y at *
 generalize r.get A=a at *
 clear V
 go_enter Tryd.func40,Tryd.ntmps40
 go_wp2_with fail
 go_quiet (first|(go_at_call 70;exact Calls.quiet_of_same (GA.out _ (HRu.out.of (by repeat (first|exact Gr.refl _|refine Gr.drewN ?_ _|refine Gr.alloc ?_ _)))))|(go_at_call 41;exact Calls.quiet_of_same (Sm.out _)))
 go_wp2_with fail
 refine (St.out _ (HRu.out.of (((Gr.refl _).alloc _).drewN _))).mono ?_
 rintro e w3 ⟨rfl,R3,C3⟩
 have HR:Hid (Ru w3 base g (r.stop (y-y%2)) bf bt):=R3
 have HF:Hid (Fu base w w3):=(Fu.ofGr (((Gr.refl _).alloc _).drewN _) hbl).trans ((HRu.out.of (((Gr.refl _).alloc _).drewN _)).fu C3)
 clear R3 C3 St HV HRu
 go_wp2_with fail
 refine bodyPost_ret (results_none Tryd.results40 _ _ _) rfl ?_
 exact ⟨rfl,HR.out,HF.out⟩
theorem one_call0 (V:Ru w base g r bf bt)(d A B n steps:Int)(hd0:0≤d)(hd1:d<36)(hA0:0≤A)(hA1:A<36)(hB0:0≤B)(hB1:B<36)(hn:W n)(hl:r.m.length≤4096)(hs:r.sto.length≤1000000)(ho:r.out.length≤1000000)(hc:r.n≤1000000)(h17:rg r.h 17=0):
  Calls Tryd.prog 40 #[.pointer (some ⟨g,0,none⟩),.agg #[.int .i64 5,.int .i64 d,.int .i64 A,.int .i64 B,.int .u32 n],.int .i64 steps] w fun e w'=>e=.returned (.tuple #[])∧Ru w' base g ({ r with h:=r.h.halt.go r.here,over:=true }) bf bt∧Fu base w w':=by
 have hbl:=V.base_le
 have HRu:Hid (Ru w base g r bf bt):=V
 obtain ⟨M,O,S,V⟩:=V
 have HV:Hid (RV w base g r bf bt M O S):=V
 have hgl:g<w.heap.size:=V.lt
 have q17:w.cell? ⟨g,17,none⟩=some (.int .u32 (rg r.h 17)):=V.reg (by omega)
 rw [h17] at q17
 have V1:=V.hart (i:=35) (by omega) (set_state V.ok.h 1) V.ok.h.halt
 have q35:=V.fld (j:=3) (by omega)
 have q45:w.cell? ⟨g,45,none⟩=some (.int .u32 r.here):=(V.last 0).trans rfl
 have f:=V.fz
 simp at q35
 have hh:W r.here:=⟨V.ok.h0,V.ok.h1⟩
 have F1:=V.fu ((Ch.refl g w).setCell 35 (.int .i64 1))
 have hb1:base≤(w.setCell ⟨g,35,none⟩ (.int .i64 1)).heap.size:=Nat.le_trans V1.bg (Nat.le_of_lt V1.lt)
 have HV1:Hid (RV (w.setCell ⟨g,35,none⟩ (.int .i64 1)) base g { r with h:=r.h.halt } bf bt M O S):=V1
 have HF1:Hid (Fu base w (w.setCell ⟨g,35,none⟩ (.int .i64 1))):=F1
 have St:Hid (∀V:World,Ru V base g { r with h:=r.h.halt } bf bt→Calls Tryd.prog 68 #[.pointer (some ⟨g,0,none⟩),.int .u32 r.here] V fun e w'=>e=.returned (.tuple #[])∧Ru w' base g ({ r with h:=r.h.halt.go r.here,over:=true }) bf bt∧Ch g V w'):=fun V h=>stop_any h r.here hh
 clear V V1 F1 hh h17
 go_enter Tryd.func40,Tryd.ntmps40
 go_wp2_with fail
 refine (St.out _ ⟨_,_,_,HV1.out.of ((Gr.refl _).alloc _)⟩).mono ?_
 rintro e w3 ⟨rfl,R3,C3⟩
 have HR:Hid (Ru w3 base g ({ r with h:=r.h.halt.go r.here,over:=true }) bf bt):=R3
 have HF:Hid (Fu base w w3):=(HF1.out.trans (Fu.ofGr ((Gr.refl _).alloc _) hb1)).trans ((HV1.out.of ((Gr.refl _).alloc _)).fu C3)
 clear R3 C3 St HV HRu HV1 HF1
 go_wp2_with fail
 refine bodyPost_ret (results_none Tryd.results40 _ _ _) rfl ?_
 exact ⟨rfl,HR.out,HF.out⟩
theorem one_call1 (V:Ru w base g r bf bt)(d A B n steps:Int)(hd0:0≤d)(hd1:d<36)(hA0:0≤A)(hA1:A<36)(hB0:0≤B)(hB1:B<36)(hn:W n)(hl:r.m.length≤4096)(hs:r.sto.length≤1000000)(ho:r.out.length≤1000000)(hc:r.n≤1000000)(h17:rg r.h 17=1):
  Calls Tryd.prog 40 #[.pointer (some ⟨g,0,none⟩),.agg #[.int .i64 5,.int .i64 d,.int .i64 A,.int .i64 B,.int .u32 n],.int .i64 steps] w fun e w'=>e=.returned (.tuple #[])∧Ru w' base g ({ r with out:=r.out++[rg r.h 10] }) bf bt∧Fu base w w':=by
 have hbl:=V.base_le
 have HRu:Hid (Ru w base g r bf bt):=V
 obtain ⟨M,O,S,V⟩:=V
 have HV:Hid (RV w base g r bf bt M O S):=V
 have hgl:g<w.heap.size:=V.lt
 have q17:w.cell? ⟨g,17,none⟩=some (.int .u32 (rg r.h 17)):=V.reg (by omega)
 rw [h17] at q17
 have q10:w.cell? ⟨g,10,none⟩=some (.int .u32 (rg r.h 10)):=V.reg (by omega)
 have f:=V.fz
 obtain ⟨oa,oc,rfl⟩:=owns_word V.out
 have q38:w.cell? ⟨g,38,none⟩=some (.slice oa r.out.length oc):=(V.top 1).trans rfl
 have HW:Hid (RV w base g r bf bt M (.slice oa r.out.length oc) S):=HV.out
 obtain ⟨i0,hi,hz0,hz1,hz2⟩:=info_parts infoU
 clear V HV HRu h17
 generalize rg r.h 10=x at *
 go_enter Tryd.func40,Tryd.ntmps40
 go_wp2_with fail
 go_region_law (refine step_append_own rfl (.tmp 117) (.tmp 125) 47 rfl base 24 i0 _ 1 4 Tryd.underlying47 hi hz0 hz1 hz2 rfl (by decide) (.slice oa r.out.length oc) r.out.length (r.out.map (Value.int .u32)) (by simp [Act.eval,Act.put]) (owns_gr HW.out.out (by repeat (first|exact Gr.refl _|refine Gr.drew ?_|refine Gr.alloc ?_ _))) ⟨w.heap.size+1,0,none⟩ 1 1 [.int .u32 x] (by simp [Act.eval,Act.put]) rfl (one_cell (by simp)) (one_one _) (by unfold maxLen;omega) (by omega) (by simp;omega) ?_;intro v' w' hown hgrow;obtain ⟨a',c',rfl⟩:=owns_word hown;obtain ⟨z1,z2,V2,F2⟩:=HW.out.appO (os:=r.out++[x]) (by repeat (first|exact Gr.refl _|refine Gr.drew ?_|refine Gr.alloc ?_ _)) hgrow (by rw [List.map_append,List.length_append];exact hown);have HV2:Hid _:=V2;have HF2:Hid _:=F2;clear V2 F2 hown hgrow)
 all_goals
  go_wp2_with fail
  refine bodyPost_ret (results_none Tryd.results40 _ _ _) rfl ?_
  exact ⟨rfl,⟨_,_,_,HV2.out⟩,HF2.out⟩
theorem one_call2 (V:Ru w base g r bf bt)(d A B n steps:Int)(hd0:0≤d)(hd1:d<36)(hA0:0≤A)(hA1:A<36)(hB0:0≤B)(hB1:B<36)(hn:W n)(hl:r.m.length≤4096)(hs:r.sto.length≤1000000)(ho:r.out.length≤1000000)(hc:r.n≤1000000)(h0:¬rg r.h 17=0)(h1:¬rg r.h 17=1):
  Calls Tryd.prog 40 #[.pointer (some ⟨g,0,none⟩),.agg #[.int .i64 5,.int .i64 d,.int .i64 A,.int .i64 B,.int .u32 n],.int .i64 steps] w fun e w'=>e=.returned (.tuple #[])∧Ru w' base g (r.trap 5) bf bt∧Fu base w w':=by
 have hbl:=V.base_le
 have HRu:Hid (Ru w base g r bf bt):=V
 obtain ⟨M,O,S,V⟩:=V
 have HV:Hid (RV w base g r bf bt M O S):=V
 have hgl:g<w.heap.size:=V.lt
 have q17:w.cell? ⟨g,17,none⟩=some (.int .u32 (rg r.h 17)):=V.reg (by omega)
 generalize rg r.h 17=x17 at *
 have hb0:(x17 == 0)=false:=by simpa using h0
 have hb1:(x17 == 1)=false:=by simpa using h1
 have St:Hid (∀V:World,Ru V base g r bf bt→Calls Tryd.prog 71 #[.pointer (some ⟨g,0,none⟩),.int .i64 5] V fun e w'=>e=.returned (.tuple #[])∧Ru w' base g (r.trap 5) bf bt∧Ch g V w'):=fun V h=>rtrap_any h 5
 clear V h0 h1
 go_enter Tryd.func40,Tryd.ntmps40
 go_wp2_with fail
 refine (St.out _ (HRu.out.of ((Gr.refl _).alloc _))).mono ?_
 rintro e w3 ⟨rfl,R3,C3⟩
 have HR:Hid (Ru w3 base g (r.trap 5) bf bt):=R3
 have HF:Hid (Fu base w w3):=(Fu.ofGr ((Gr.refl _).alloc _) hbl).trans ((HRu.out.of ((Gr.refl _).alloc _)).fu C3)
 clear R3 C3 St HV HRu
 go_wp2_with fail
 refine bodyPost_ret (results_none Tryd.results40 _ _ _) rfl ?_
 exact ⟨rfl,HR.out,HF.out⟩
theorem one_if1 (V:Ru w base g r bf bt)(op k d A B n steps:Int)(hd0:0≤d)(hd1:d<36)(hA0:0≤A)(hA1:A<36)(hB0:0≤B)(hB1:B<36)(hn:W n)(hl:r.m.length≤4096)(hs:r.sto.length≤1000000)(ho:r.out.length≤1000000)(hc:r.n≤1000000)(hop:op=100+k)(hk0:0≤k)(hk1:k<100)(hh:Wd.holds k (r.get A) (r.get B)=true):
  Calls Tryd.prog 40 #[.pointer (some ⟨g,0,none⟩),.agg #[.int .i64 op,.int .i64 d,.int .i64 A,.int .i64 B,.int .u32 n],.int .i64 steps] w fun e w'=>e=.returned (.tuple #[])∧Ru w' base g (r.stop n) bf bt∧Fu base w w':=by
 have hbl:=V.base_le
 have HRu:Hid (Ru w base g r bf bt):=V
 obtain ⟨M,O,S,V⟩:=V
 have HV:Hid (RV w base g r bf bt M O S):=V
 have hgl:g<w.heap.size:=V.lt
 have ht:op.tmod 100=k:=by rw [Int.tmod_eq_emod_of_nonneg (by omega)];omega
 have n1:(op == 1)=false:=by simp;omega
 have n2:(op == 2)=false:=by simp;omega
 have n3:(op == 3)=false:=by simp;omega
 have n4:(op == 4)=false:=by simp;omega
 have n6:(op == 6)=false:=by simp;omega
 have n5:(op == 5)=false:=by simp;omega
 have hsub:op-k=100:=by omega
 have wa:W (r.get A):=V.ok.get A
 have wb:W (r.get B):=V.ok.get B
 have GA:Hid (∀V:World,Ru V base g r bf bt→Calls Tryd.prog 70 #[.pointer (some ⟨g,0,none⟩),.int .i64 A] V fun e w'=>e=.returned (.int .u32 (r.get A))∧w'=V):=fun V h=>get_any h A hA0 hA1
 have GB:Hid (∀V:World,Ru V base g r bf bt→Calls Tryd.prog 70 #[.pointer (some ⟨g,0,none⟩),.int .i64 B] V fun e w'=>e=.returned (.int .u32 (r.get B))∧w'=V):=fun V h=>get_any h B hB0 hB1
 have Hd:Hid (∀V:World,Calls Tryd.prog 72 #[.int .i64 k,.int .u32 (r.get A),.int .u32 (r.get B)] V fun e w'=>e=.returned (.bool true)∧Gr V w'):=fun V=>(Rw.holds_any k (r.get A) (r.get B) V wa.1 wa.2 wb.1 wb.2).mono fun e w' h=>⟨by rw [h.1,hh],by rw [h.2];exact Gr.refl _⟩
 clear hh
 have St:Hid (∀V:World,Ru V base g r bf bt→Calls Tryd.prog 68 #[.pointer (some ⟨g,0,none⟩),.int .u32 n] V fun e w'=>e=.returned (.tuple #[])∧Ru w' base g (r.stop n) bf bt∧Ch g V w'):=fun V h=>stop_any h n hn
 generalize r.get A=a at *
 generalize r.get B=b at *
 clear V hop
 go_enter Tryd.func40,Tryd.ntmps40
 go_wp2_with fail
 refine (GA.out _ (HRu.out.of ((Gr.refl _).alloc _))).mono ?_
 rintro e w0 ⟨rfl,rfl⟩
 clear GA
 go_wp2_with fail
 refine (GB.out _ (HRu.out.of ((Gr.refl _).alloc _))).mono ?_
 rintro e w0 ⟨rfl,rfl⟩
 clear GB
 go_wp2_with fail
 refine (Hd.out _).mono ?_
 rintro e w0 ⟨rfl,G0⟩
 have HR0:Hid (Ru w0 base g r bf bt):=HRu.out.of (((Gr.refl _).alloc _).trans G0)
 have HF0:Hid (Fu base w w0):=Fu.ofGr (((Gr.refl _).alloc _).trans G0) hbl
 have k4:=cr4 (heap_up G0 (heap_alloc_new w _))
 clear G0 Hd
 go_wp2_with fail
 refine (St.out _ HR0.out).mono ?_
 rintro e w3 ⟨rfl,R3,C3⟩
 have HR:Hid (Ru w3 base g (r.stop n) bf bt):=R3
 have HF:Hid (Fu base w w3):=HF0.out.trans (HR0.out.fu C3)
 clear R3 C3 St HR0 HF0
 go_wp2_with fail
 go_end0
 exact ⟨rfl,HR.out,HF.out⟩
theorem one_if2 (V:Ru w base g r bf bt)(op k d A B n steps:Int)(hd0:0≤d)(hd1:d<36)(hA0:0≤A)(hA1:A<36)(hB0:0≤B)(hB1:B<36)(hn:W n)(hl:r.m.length≤4096)(hs:r.sto.length≤1000000)(ho:r.out.length≤1000000)(hc:r.n≤1000000)(hop:op=100+k)(hk0:0≤k)(hk1:k<100)(hh:Wd.holds k (r.get A) (r.get B)=false):
  Calls Tryd.prog 40 #[.pointer (some ⟨g,0,none⟩),.agg #[.int .i64 op,.int .i64 d,.int .i64 A,.int .i64 B,.int .u32 n],.int .i64 steps] w fun e w'=>e=.returned (.tuple #[])∧Ru w' base g (r) bf bt∧Fu base w w':=by
 have hbl:=V.base_le
 have HRu:Hid (Ru w base g r bf bt):=V
 obtain ⟨M,O,S,V⟩:=V
 have HV:Hid (RV w base g r bf bt M O S):=V
 have hgl:g<w.heap.size:=V.lt
 have ht:op.tmod 100=k:=by rw [Int.tmod_eq_emod_of_nonneg (by omega)];omega
 have n1:(op == 1)=false:=by simp;omega
 have n2:(op == 2)=false:=by simp;omega
 have n3:(op == 3)=false:=by simp;omega
 have n4:(op == 4)=false:=by simp;omega
 have n6:(op == 6)=false:=by simp;omega
 have n5:(op == 5)=false:=by simp;omega
 have hsub:op-k=100:=by omega
 have wa:W (r.get A):=V.ok.get A
 have wb:W (r.get B):=V.ok.get B
 have GA:Hid (∀V:World,Ru V base g r bf bt→Calls Tryd.prog 70 #[.pointer (some ⟨g,0,none⟩),.int .i64 A] V fun e w'=>e=.returned (.int .u32 (r.get A))∧w'=V):=fun V h=>get_any h A hA0 hA1
 have GB:Hid (∀V:World,Ru V base g r bf bt→Calls Tryd.prog 70 #[.pointer (some ⟨g,0,none⟩),.int .i64 B] V fun e w'=>e=.returned (.int .u32 (r.get B))∧w'=V):=fun V h=>get_any h B hB0 hB1
 have Hd:Hid (∀V:World,Calls Tryd.prog 72 #[.int .i64 k,.int .u32 (r.get A),.int .u32 (r.get B)] V fun e w'=>e=.returned (.bool false)∧Gr V w'):=fun V=>(Rw.holds_any k (r.get A) (r.get B) V wa.1 wa.2 wb.1 wb.2).mono fun e w' h=>⟨by rw [h.1,hh],by rw [h.2];exact Gr.refl _⟩
 clear hh
 generalize r.get A=a at *
 generalize r.get B=b at *
 clear V hop
 go_enter Tryd.func40,Tryd.ntmps40
 go_wp2_with fail
 refine (GA.out _ (HRu.out.of ((Gr.refl _).alloc _))).mono ?_
 rintro e w0 ⟨rfl,rfl⟩
 clear GA
 go_wp2_with fail
 refine (GB.out _ (HRu.out.of ((Gr.refl _).alloc _))).mono ?_
 rintro e w0 ⟨rfl,rfl⟩
 clear GB
 go_wp2_with fail
 refine (Hd.out _).mono ?_
 rintro e w0 ⟨rfl,G0⟩
 have HR0:Hid (Ru w0 base g r bf bt):=HRu.out.of (((Gr.refl _).alloc _).trans G0)
 have HF0:Hid (Fu base w w0):=Fu.ofGr (((Gr.refl _).alloc _).trans G0) hbl
 have k4:=cr4 (heap_up G0 (heap_alloc_new w _))
 clear G0 Hd
 go_wp2_with fail
 go_end0
 exact ⟨rfl,HR0.out,HF0.out⟩
theorem one_alu (V:Ru w base g r bf bt)(op k d A B n steps:Int)(hd0:0≤d)(hd1:d<36)(hA0:0≤A)(hA1:A<36)(hB0:0≤B)(hB1:B<36)(hn:W n)(hl:r.m.length≤4096)(hs:r.sto.length≤1000000)(ho:r.out.length≤1000000)(hc:r.n≤1000000)(hop:op=400+k)(hk0:0≤k)(hk1:k<100):
  Calls Tryd.prog 40 #[.pointer (some ⟨g,0,none⟩),.agg #[.int .i64 op,.int .i64 d,.int .i64 A,.int .i64 B,.int .u32 n],.int .i64 steps] w fun e w'=>e=.returned (.tuple #[])∧Ru w' base g (r.put d (Wd.alu k (r.get A) (r.get B))) bf bt∧Fu base w w':=by
 have hbl:=V.base_le
 have HRu:Hid (Ru w base g r bf bt):=V
 obtain ⟨M,O,S,V⟩:=V
 have HV:Hid (RV w base g r bf bt M O S):=V
 have hgl:g<w.heap.size:=V.lt
 have ht:op.tmod 100=k:=by rw [Int.tmod_eq_emod_of_nonneg (by omega)];omega
 have n1:(op == 1)=false:=by simp;omega
 have n2:(op == 2)=false:=by simp;omega
 have n3:(op == 3)=false:=by simp;omega
 have n4:(op == 4)=false:=by simp;omega
 have n6:(op == 6)=false:=by simp;omega
 have n5:(op == 5)=false:=by simp;omega
 have hsub:op-k=400:=by omega
 have wa:W (r.get A):=V.ok.get A
 have wb:W (r.get B):=V.ok.get B
 have GA:Hid (∀V:World,Ru V base g r bf bt→Calls Tryd.prog 70 #[.pointer (some ⟨g,0,none⟩),.int .i64 A] V fun e w'=>e=.returned (.int .u32 (r.get A))∧w'=V):=fun V h=>get_any h A hA0 hA1
 have GB:Hid (∀V:World,Ru V base g r bf bt→Calls Tryd.prog 70 #[.pointer (some ⟨g,0,none⟩),.int .i64 B] V fun e w'=>e=.returned (.int .u32 (r.get B))∧w'=V):=fun V h=>get_any h B hB0 hB1
 have Al:Hid (∀V:World,Calls Tryd.prog 75 #[.int .i64 k,.int .u32 (r.get A),.int .u32 (r.get B)] V fun e w'=>e=.returned (.int .u32 (Wd.alu k (r.get A) (r.get B)))∧Gr V w'):=fun V=>(Rw.alu_any k (r.get A) (r.get B) V wa.1 wa.2 wb.1 wb.2).mono fun e w' h=>⟨h.1,by obtain ⟨m,e⟩:=h.2;rw [e];exact (Gr.refl _).drewN m⟩
 have wz:W (Wd.alu k (r.get A) (r.get B)):=W.alu wa wb
 have St:Hid (∀V:World,Ru V base g r bf bt→Calls Tryd.prog 69 #[.pointer (some ⟨g,0,none⟩),.int .i64 d,.int .u32 (Wd.alu k (r.get A) (r.get B))] V fun e w'=>e=.returned (.tuple #[])∧Ru w' base g (r.put d (Wd.alu k (r.get A) (r.get B))) bf bt∧Ch g V w'):=fun V h=>put_any h d _ hd0 hd1 wz
 generalize (Wd.alu k (r.get A) (r.get B))=z at *
 generalize r.get A=a at *
 generalize r.get B=b at *
 clear V hop
 go_enter Tryd.func40,Tryd.ntmps40
 go_wp2_with fail
 refine (GA.out _ (HRu.out.of ((Gr.refl _).alloc _))).mono ?_
 rintro e w0 ⟨rfl,rfl⟩
 clear GA
 go_wp2_with fail
 refine (GB.out _ (HRu.out.of ((Gr.refl _).alloc _))).mono ?_
 rintro e w0 ⟨rfl,rfl⟩
 clear GB
 go_wp2_with fail
 refine (Al.out _).mono ?_
 rintro e w0 ⟨rfl,G0⟩
 have HR0:Hid (Ru w0 base g r bf bt):=HRu.out.of (((Gr.refl _).alloc _).trans G0)
 have HF0:Hid (Fu base w w0):=Fu.ofGr (((Gr.refl _).alloc _).trans G0) hbl
 have k1:=cr1 (heap_up G0 (heap_alloc_new w _))
 clear G0 Al
 go_wp2_with fail
 refine (St.out _ HR0.out).mono ?_
 rintro e w3 ⟨rfl,R3,C3⟩
 have HR:Hid (Ru w3 base g (r.put d z) bf bt):=R3
 have HF:Hid (Fu base w w3):=HF0.out.trans (HR0.out.fu C3)
 clear R3 C3 St HR0 HF0
 go_wp2_with fail
 go_end0
 exact ⟨rfl,HR.out,HF.out⟩
theorem one_alun (V:Ru w base g r bf bt)(op k d A B n steps:Int)(hd0:0≤d)(hd1:d<36)(hA0:0≤A)(hA1:A<36)(hB0:0≤B)(hB1:B<36)(hn:W n)(hl:r.m.length≤4096)(hs:r.sto.length≤1000000)(ho:r.out.length≤1000000)(hc:r.n≤1000000)(hop:op=500+k)(hk0:0≤k)(hk1:k<100):
  Calls Tryd.prog 40 #[.pointer (some ⟨g,0,none⟩),.agg #[.int .i64 op,.int .i64 d,.int .i64 A,.int .i64 B,.int .u32 n],.int .i64 steps] w fun e w'=>e=.returned (.tuple #[])∧Ru w' base g (r.put d (Wd.alu k (r.get A) n)) bf bt∧Fu base w w':=by
 have hbl:=V.base_le
 have HRu:Hid (Ru w base g r bf bt):=V
 obtain ⟨M,O,S,V⟩:=V
 have HV:Hid (RV w base g r bf bt M O S):=V
 have hgl:g<w.heap.size:=V.lt
 have ht:op.tmod 100=k:=by rw [Int.tmod_eq_emod_of_nonneg (by omega)];omega
 have n1:(op == 1)=false:=by simp;omega
 have n2:(op == 2)=false:=by simp;omega
 have n3:(op == 3)=false:=by simp;omega
 have n4:(op == 4)=false:=by simp;omega
 have n6:(op == 6)=false:=by simp;omega
 have n5:(op == 5)=false:=by simp;omega
 have hsub:op-k=500:=by omega
 have wa:W (r.get A):=V.ok.get A
 have wb:W (r.get B):=V.ok.get B
 have GA:Hid (∀V:World,Ru V base g r bf bt→Calls Tryd.prog 70 #[.pointer (some ⟨g,0,none⟩),.int .i64 A] V fun e w'=>e=.returned (.int .u32 (r.get A))∧w'=V):=fun V h=>get_any h A hA0 hA1
 have GB:Hid (∀V:World,Ru V base g r bf bt→Calls Tryd.prog 70 #[.pointer (some ⟨g,0,none⟩),.int .i64 B] V fun e w'=>e=.returned (.int .u32 (r.get B))∧w'=V):=fun V h=>get_any h B hB0 hB1
 have Al:Hid (∀V:World,Calls Tryd.prog 75 #[.int .i64 k,.int .u32 (r.get A),.int .u32 n] V fun e w'=>e=.returned (.int .u32 (Wd.alu k (r.get A) n))∧Gr V w'):=fun V=>(Rw.alu_any k (r.get A) n V wa.1 wa.2 hn.1 hn.2).mono fun e w' h=>⟨h.1,by obtain ⟨m,e⟩:=h.2;rw [e];exact (Gr.refl _).drewN m⟩
 have wz:W (Wd.alu k (r.get A) n):=W.alu wa hn
 have St:Hid (∀V:World,Ru V base g r bf bt→Calls Tryd.prog 69 #[.pointer (some ⟨g,0,none⟩),.int .i64 d,.int .u32 (Wd.alu k (r.get A) n)] V fun e w'=>e=.returned (.tuple #[])∧Ru w' base g (r.put d (Wd.alu k (r.get A) n)) bf bt∧Ch g V w'):=fun V h=>put_any h d _ hd0 hd1 wz
 generalize (Wd.alu k (r.get A) n)=z at *
 generalize r.get A=a at *
 generalize r.get B=b at *
 clear V hop
 go_enter Tryd.func40,Tryd.ntmps40
 go_wp2_with fail
 refine (GA.out _ (HRu.out.of ((Gr.refl _).alloc _))).mono ?_
 rintro e w0 ⟨rfl,rfl⟩
 clear GA
 go_wp2_with fail
 refine (GB.out _ (HRu.out.of ((Gr.refl _).alloc _))).mono ?_
 rintro e w0 ⟨rfl,rfl⟩
 clear GB
 go_wp2_with fail
 refine (Al.out _).mono ?_
 rintro e w0 ⟨rfl,G0⟩
 have HR0:Hid (Ru w0 base g r bf bt):=HRu.out.of (((Gr.refl _).alloc _).trans G0)
 have HF0:Hid (Fu base w w0):=Fu.ofGr (((Gr.refl _).alloc _).trans G0) hbl
 have k1:=cr1 (heap_up G0 (heap_alloc_new w _))
 clear G0 Al
 go_wp2_with fail
 refine (St.out _ HR0.out).mono ?_
 rintro e w3 ⟨rfl,R3,C3⟩
 have HR:Hid (Ru w3 base g (r.put d z) bf bt):=R3
 have HF:Hid (Fu base w w3):=HF0.out.trans (HR0.out.fu C3)
 clear R3 C3 St HR0 HF0
 go_wp2_with fail
 go_end0
 exact ⟨rfl,HR.out,HF.out⟩
theorem one_ld0 (V:Ru w base g r bf bt)(op k d A B n steps:Int)(hd0:0≤d)(hd1:d<36)(hA0:0≤A)(hA1:A<36)(hB0:0≤B)(hB1:B<36)(hn:W n)(hl:r.m.length≤4096)(hs:r.sto.length≤1000000)(ho:r.out.length≤1000000)(hc:r.n≤1000000)(hop:op=200+k)(hk0:0≤k)(hk1:k<100)(ok:ldOk r.m k (Wd.lo (r.get A+n))=false):
  Calls Tryd.prog 40 #[.pointer (some ⟨g,0,none⟩),.agg #[.int .i64 op,.int .i64 d,.int .i64 A,.int .i64 B,.int .u32 n],.int .i64 steps] w fun e w'=>e=.returned (.tuple #[])∧Ru w' base g (r.trap 3) bf bt∧Fu base w w':=by
 have hbl:=V.base_le
 have HRu:Hid (Ru w base g r bf bt):=V
 obtain ⟨M,O,S,V⟩:=V
 have HV:Hid (RV w base g r bf bt M O S):=V
 have hgl:g<w.heap.size:=V.lt
 have ht:op.tmod 100=k:=by rw [Int.tmod_eq_emod_of_nonneg (by omega)];omega
 have n1:(op == 1)=false:=by simp;omega
 have n2:(op == 2)=false:=by simp;omega
 have n3:(op == 3)=false:=by simp;omega
 have n4:(op == 4)=false:=by simp;omega
 have n6:(op == 6)=false:=by simp;omega
 have n5:(op == 5)=false:=by simp;omega
 have hsub:op-k=200:=by omega
 have wa:W (r.get A):=V.ok.get A
 have wb:W (r.get B):=V.ok.get B
 have GA:Hid (∀V:World,Ru V base g r bf bt→Calls Tryd.prog 70 #[.pointer (some ⟨g,0,none⟩),.int .i64 A] V fun e w'=>e=.returned (.int .u32 (r.get A))∧w'=V):=fun V h=>get_any h A hA0 hA1
 have GB:Hid (∀V:World,Ru V base g r bf bt→Calls Tryd.prog 70 #[.pointer (some ⟨g,0,none⟩),.int .i64 B] V fun e w'=>e=.returned (.int .u32 (r.get B))∧w'=V):=fun V h=>get_any h B hB0 hB1
 obtain ⟨ao,cap,rfl⟩:=V.mem.form
 have q37:w.cell? ⟨g,37,none⟩=some (.slice ao r.m.length cap):=(V.top 0).trans rfl
 have HW:Hid (RV w base g r bf bt (.slice ao r.m.length cap) O S):=HV.out
 have wl:W (Wd.lo (r.get A+n)):=W.lo _
 have Sm:Hid (∀V:World,Calls Tryd.prog 41 #[.int .u32 (r.get A),.int .u32 n] V fun e w'=>e=.returned (.int .u32 (Wd.lo (r.get A+n)))∧w'=V):=fun V=>sum_any (r.get A) n V wa hn
 have Ld:Hid (∀V:World,Gr w V→Calls Tryd.prog 38 #[.slice ao r.m.length cap,.int .i64 k,.int .u32 (Wd.lo (r.get A+n))] V fun e w'=>e=.returned (.tuple #[.int .u32 (ldV r.m k (Wd.lo (r.get A+n))),.bool false])∧w'=V):=fun V G=>by have:=mo_load (HW.out.mem.of G hbl) hl k (Wd.lo (r.get A+n)) wl;rwa [ok] at this
 have St:Hid (∀V:World,Ru V base g r bf bt→Calls Tryd.prog 71 #[.pointer (some ⟨g,0,none⟩),.int .i64 3] V fun e w'=>e=.returned (.tuple #[])∧Ru w' base g (r.trap 3) bf bt∧Ch g V w'):=fun V h=>rtrap_any h 3
 clear ok wl
 generalize ldV r.m k (Wd.lo (r.get A+n))=z at *
 generalize (Wd.lo (r.get A+n))=p at *
 generalize r.get A=a at *
 generalize r.get B=b at *
 clear V hop
 go_enter Tryd.func40,Tryd.ntmps40
 go_wp2_with fail
 refine (GA.out _ (HRu.out.of ((Gr.refl _).alloc _))).mono ?_
 rintro e w0 ⟨rfl,rfl⟩
 clear GA
 go_wp2_with fail
 refine (GB.out _ (HRu.out.of ((Gr.refl _).alloc _))).mono ?_
 rintro e w0 ⟨rfl,rfl⟩
 clear GB
 go_wp2_with fail
 go_quiet (first|(go_at_call 41;exact Calls.quiet_of_same (Sm.out _))|(go_at_call 38;exact Calls.quiet_of_same (Ld.out _ (by repeat (first|exact Gr.refl _|refine Gr.drewN ?_ _|refine Gr.alloc ?_ _)))))
 go_wp2_with fail
 refine (St.out _ (HRu.out.of (((Gr.refl _).alloc _).drewN _))).mono ?_
 rintro e w3 ⟨rfl,R3,C3⟩
 have HR:Hid (Ru w3 base g (r.trap 3) bf bt):=R3
 have HF:Hid (Fu base w w3):=(Fu.ofGr (((Gr.refl _).alloc _).drewN _) hbl).trans ((HRu.out.of (((Gr.refl _).alloc _).drewN _)).fu C3)
 clear R3 C3 St HV HRu
 go_wp2_with fail
 refine bodyPost_ret (results_none Tryd.results40 _ _ _) rfl ?_
 exact ⟨rfl,HR.out,HF.out⟩
theorem one_ld1 (V:Ru w base g r bf bt)(op k d A B n steps:Int)(hd0:0≤d)(hd1:d<36)(hA0:0≤A)(hA1:A<36)(hB0:0≤B)(hB1:B<36)(hn:W n)(hl:r.m.length≤4096)(hs:r.sto.length≤1000000)(ho:r.out.length≤1000000)(hc:r.n≤1000000)(hop:op=200+k)(hk0:0≤k)(hk1:k<100)(ok:ldOk r.m k (Wd.lo (r.get A+n))=true):
  Calls Tryd.prog 40 #[.pointer (some ⟨g,0,none⟩),.agg #[.int .i64 op,.int .i64 d,.int .i64 A,.int .i64 B,.int .u32 n],.int .i64 steps] w fun e w'=>e=.returned (.tuple #[])∧Ru w' base g (r.put d (ldV r.m k (Wd.lo (r.get A+n)))) bf bt∧Fu base w w':=by
 have hbl:=V.base_le
 have HRu:Hid (Ru w base g r bf bt):=V
 obtain ⟨M,O,S,V⟩:=V
 have HV:Hid (RV w base g r bf bt M O S):=V
 have hgl:g<w.heap.size:=V.lt
 have ht:op.tmod 100=k:=by rw [Int.tmod_eq_emod_of_nonneg (by omega)];omega
 have n1:(op == 1)=false:=by simp;omega
 have n2:(op == 2)=false:=by simp;omega
 have n3:(op == 3)=false:=by simp;omega
 have n4:(op == 4)=false:=by simp;omega
 have n6:(op == 6)=false:=by simp;omega
 have n5:(op == 5)=false:=by simp;omega
 have hsub:op-k=200:=by omega
 have wa:W (r.get A):=V.ok.get A
 have wb:W (r.get B):=V.ok.get B
 have GA:Hid (∀V:World,Ru V base g r bf bt→Calls Tryd.prog 70 #[.pointer (some ⟨g,0,none⟩),.int .i64 A] V fun e w'=>e=.returned (.int .u32 (r.get A))∧w'=V):=fun V h=>get_any h A hA0 hA1
 have GB:Hid (∀V:World,Ru V base g r bf bt→Calls Tryd.prog 70 #[.pointer (some ⟨g,0,none⟩),.int .i64 B] V fun e w'=>e=.returned (.int .u32 (r.get B))∧w'=V):=fun V h=>get_any h B hB0 hB1
 obtain ⟨ao,cap,rfl⟩:=V.mem.form
 have q37:w.cell? ⟨g,37,none⟩=some (.slice ao r.m.length cap):=(V.top 0).trans rfl
 have HW:Hid (RV w base g r bf bt (.slice ao r.m.length cap) O S):=HV.out
 have wl:W (Wd.lo (r.get A+n)):=W.lo _
 have Sm:Hid (∀V:World,Calls Tryd.prog 41 #[.int .u32 (r.get A),.int .u32 n] V fun e w'=>e=.returned (.int .u32 (Wd.lo (r.get A+n)))∧w'=V):=fun V=>sum_any (r.get A) n V wa hn
 have Ld:Hid (∀V:World,Gr w V→Calls Tryd.prog 38 #[.slice ao r.m.length cap,.int .i64 k,.int .u32 (Wd.lo (r.get A+n))] V fun e w'=>e=.returned (.tuple #[.int .u32 (ldV r.m k (Wd.lo (r.get A+n))),.bool true])∧w'=V):=fun V G=>by have:=mo_load (HW.out.mem.of G hbl) hl k (Wd.lo (r.get A+n)) wl;rwa [ok] at this
 have wz:W (ldV r.m k (Wd.lo (r.get A+n))):=W.ldV _ _ _
 have St:Hid (∀V:World,Ru V base g r bf bt→Calls Tryd.prog 69 #[.pointer (some ⟨g,0,none⟩),.int .i64 d,.int .u32 (ldV r.m k (Wd.lo (r.get A+n)))] V fun e w'=>e=.returned (.tuple #[])∧Ru w' base g (r.put d (ldV r.m k (Wd.lo (r.get A+n)))) bf bt∧Ch g V w'):=fun V h=>put_any h d _ hd0 hd1 wz
 clear ok wl
 generalize ldV r.m k (Wd.lo (r.get A+n))=z at *
 generalize (Wd.lo (r.get A+n))=p at *
 generalize r.get A=a at *
 generalize r.get B=b at *
 clear V hop
 go_enter Tryd.func40,Tryd.ntmps40
 go_wp2_with fail
 refine (GA.out _ (HRu.out.of ((Gr.refl _).alloc _))).mono ?_
 rintro e w0 ⟨rfl,rfl⟩
 clear GA
 go_wp2_with fail
 refine (GB.out _ (HRu.out.of ((Gr.refl _).alloc _))).mono ?_
 rintro e w0 ⟨rfl,rfl⟩
 clear GB
 go_wp2_with fail
 go_quiet (first|(go_at_call 41;exact Calls.quiet_of_same (Sm.out _))|(go_at_call 38;exact Calls.quiet_of_same (Ld.out _ (by repeat (first|exact Gr.refl _|refine Gr.drewN ?_ _|refine Gr.alloc ?_ _)))))
 go_wp2_with fail
 refine (St.out _ (HRu.out.of (((Gr.refl _).alloc _).drewN _))).mono ?_
 rintro e w3 ⟨rfl,R3,C3⟩
 have HR:Hid (Ru w3 base g (r.put d z) bf bt):=R3
 have HF:Hid (Fu base w w3):=(Fu.ofGr (((Gr.refl _).alloc _).drewN _) hbl).trans ((HRu.out.of (((Gr.refl _).alloc _).drewN _)).fu C3)
 clear R3 C3 St HV HRu
 go_wp2_with fail
 go_end0
 exact ⟨rfl,HR.out,HF.out⟩
theorem one_st0 (V:Ru w base g r bf bt)(op k d A B n steps:Int)(hd0:0≤d)(hd1:d<36)(hA0:0≤A)(hA1:A<36)(hB0:0≤B)(hB1:B<36)(hn:W n)(hl:r.m.length≤4096)(hs:r.sto.length≤1000000)(ho:r.out.length≤1000000)(hc:r.n≤1000000)(hop:op=300+k)(hk0:0≤k)(hk1:k<100)(ok:stOk r.m k (Wd.lo (r.get A+n))=false):
  Calls Tryd.prog 40 #[.pointer (some ⟨g,0,none⟩),.agg #[.int .i64 op,.int .i64 d,.int .i64 A,.int .i64 B,.int .u32 n],.int .i64 steps] w fun e w'=>e=.returned (.tuple #[])∧Ru w' base g (r.trap 4) bf bt∧Fu base w w':=by
 have hbl:=V.base_le
 have HRu:Hid (Ru w base g r bf bt):=V
 obtain ⟨M,O,S,V⟩:=V
 have HV:Hid (RV w base g r bf bt M O S):=V
 have hgl:g<w.heap.size:=V.lt
 have ht:op.tmod 100=k:=by rw [Int.tmod_eq_emod_of_nonneg (by omega)];omega
 have n1:(op == 1)=false:=by simp;omega
 have n2:(op == 2)=false:=by simp;omega
 have n3:(op == 3)=false:=by simp;omega
 have n4:(op == 4)=false:=by simp;omega
 have n6:(op == 6)=false:=by simp;omega
 have n5:(op == 5)=false:=by simp;omega
 have hsub:op-k=300:=by omega
 have wa:W (r.get A):=V.ok.get A
 have wb:W (r.get B):=V.ok.get B
 have GA:Hid (∀V:World,Ru V base g r bf bt→Calls Tryd.prog 70 #[.pointer (some ⟨g,0,none⟩),.int .i64 A] V fun e w'=>e=.returned (.int .u32 (r.get A))∧w'=V):=fun V h=>get_any h A hA0 hA1
 have GB:Hid (∀V:World,Ru V base g r bf bt→Calls Tryd.prog 70 #[.pointer (some ⟨g,0,none⟩),.int .i64 B] V fun e w'=>e=.returned (.int .u32 (r.get B))∧w'=V):=fun V h=>get_any h B hB0 hB1
 obtain ⟨ao,cap,rfl⟩:=V.mem.form
 have q37:w.cell? ⟨g,37,none⟩=some (.slice ao r.m.length cap):=(V.top 0).trans rfl
 have HW:Hid (RV w base g r bf bt (.slice ao r.m.length cap) O S):=HV.out
 have wl:W (Wd.lo (r.get A+n)):=W.lo _
 have Sm:Hid (∀V:World,Calls Tryd.prog 41 #[.int .u32 (r.get A),.int .u32 n] V fun e w'=>e=.returned (.int .u32 (Wd.lo (r.get A+n)))∧w'=V):=fun V=>sum_any (r.get A) n V wa hn
 have So:Hid (∀V:World,Gr w V→Calls Tryd.prog 73 #[.slice ao r.m.length cap,.int .i64 k,.int .u32 (Wd.lo (r.get A+n)),.int .u32 (r.get B)] V fun e w'=>e=.returned (.tuple #[.slice none 0 0,.bool false])∧w'=V):=fun V G=>mo_store_no (HW.out.mem.of G hbl) hl k (Wd.lo (r.get A+n)) _ wl ok
 have St:Hid (∀V:World,Ru V base g r bf bt→Calls Tryd.prog 71 #[.pointer (some ⟨g,0,none⟩),.int .i64 4] V fun e w'=>e=.returned (.tuple #[])∧Ru w' base g (r.trap 4) bf bt∧Ch g V w'):=fun V h=>rtrap_any h 4
 clear ok wl
 generalize (Wd.lo (r.get A+n))=p at *
 generalize r.get A=a at *
 generalize r.get B=b at *
 clear V hop
 go_enter Tryd.func40,Tryd.ntmps40
 go_wp2_with fail
 refine (GA.out _ (HRu.out.of ((Gr.refl _).alloc _))).mono ?_
 rintro e w0 ⟨rfl,rfl⟩
 clear GA
 go_wp2_with fail
 refine (GB.out _ (HRu.out.of ((Gr.refl _).alloc _))).mono ?_
 rintro e w0 ⟨rfl,rfl⟩
 clear GB
 go_wp2_with fail
 refine (Sm.out _).mono ?_
 rintro e w0 ⟨rfl,rfl⟩
 clear Sm
 go_wp2_with fail
 refine (So.out _ ((Gr.refl _).alloc _)).mono ?_
 rintro e w0 ⟨rfl,rfl⟩
 clear So
 go_wp2_with fail
 refine (St.out _ (HRu.out.of ((Gr.refl _).alloc _))).mono ?_
 rintro e w3 ⟨rfl,R3,C3⟩
 have HR:Hid (Ru w3 base g (r.trap 4) bf bt):=R3
 have HF:Hid (Fu base w w3):=(Fu.ofGr ((Gr.refl _).alloc _) hbl).trans ((HRu.out.of ((Gr.refl _).alloc _)).fu C3)
 clear R3 C3 St HV HRu
 go_wp2_with fail
 refine bodyPost_ret (results_none Tryd.results40 _ _ _) rfl ?_
 exact ⟨rfl,HR.out,HF.out⟩
theorem one_st1 (V:Ru w base g r bf bt)(op k d A B n steps:Int)(hd0:0≤d)(hd1:d<36)(hA0:0≤A)(hA1:A<36)(hB0:0≤B)(hB1:B<36)(hn:W n)(hl:r.m.length≤4096)(hs:r.sto.length≤1000000)(ho:r.out.length≤1000000)(hc:r.n≤1000000)(hop:op=300+k)(hk0:0≤k)(hk1:k<100)(ok:stOk r.m k (Wd.lo (r.get A+n))=true):
  Calls Tryd.prog 40 #[.pointer (some ⟨g,0,none⟩),.agg #[.int .i64 op,.int .i64 d,.int .i64 A,.int .i64 B,.int .u32 n],.int .i64 steps] w fun e w'=>e=.returned (.tuple #[])∧Ru w' base g ({ r with m:=stL r.m k (Wd.lo (r.get A+n)) (r.get B) }.stored bf bt (Wd.lo (r.get A+n)) (ssz k)) bf bt∧Fu base w w':=by
 have hbl:=V.base_le
 have HRu:Hid (Ru w base g r bf bt):=V
 obtain ⟨M,O,S,V⟩:=V
 have HV:Hid (RV w base g r bf bt M O S):=V
 have hgl:g<w.heap.size:=V.lt
 have ht:op.tmod 100=k:=by rw [Int.tmod_eq_emod_of_nonneg (by omega)];omega
 have n1:(op == 1)=false:=by simp;omega
 have n2:(op == 2)=false:=by simp;omega
 have n3:(op == 3)=false:=by simp;omega
 have n4:(op == 4)=false:=by simp;omega
 have n6:(op == 6)=false:=by simp;omega
 have n5:(op == 5)=false:=by simp;omega
 have hsub:op-k=300:=by omega
 have wa:W (r.get A):=V.ok.get A
 have wb:W (r.get B):=V.ok.get B
 have GA:Hid (∀V:World,Ru V base g r bf bt→Calls Tryd.prog 70 #[.pointer (some ⟨g,0,none⟩),.int .i64 A] V fun e w'=>e=.returned (.int .u32 (r.get A))∧w'=V):=fun V h=>get_any h A hA0 hA1
 have GB:Hid (∀V:World,Ru V base g r bf bt→Calls Tryd.prog 70 #[.pointer (some ⟨g,0,none⟩),.int .i64 B] V fun e w'=>e=.returned (.int .u32 (r.get B))∧w'=V):=fun V h=>get_any h B hB0 hB1
 obtain ⟨ao,cap,rfl⟩:=V.mem.form
 have q37:w.cell? ⟨g,37,none⟩=some (.slice ao r.m.length cap):=(V.top 0).trans rfl
 have HW:Hid (RV w base g r bf bt (.slice ao r.m.length cap) O S):=HV.out
 have wl:W (Wd.lo (r.get A+n)):=W.lo _
 have Sm:Hid (∀V:World,Calls Tryd.prog 41 #[.int .u32 (r.get A),.int .u32 n] V fun e w'=>e=.returned (.int .u32 (Wd.lo (r.get A+n)))∧w'=V):=fun V=>sum_any (r.get A) n V wa hn
 have So:Hid (∀V:World,MO V base (.slice ao r.m.length cap) r.m→Calls Tryd.prog 73 #[.slice ao r.m.length cap,.int .i64 k,.int .u32 (Wd.lo (r.get A+n)),.int .u32 (r.get B)] V fun e w'=>∃j c,e=.returned (.tuple #[.slice (some ⟨j,0,none⟩) r.m.length c,.bool true])∧MO w' base (.slice (some ⟨j,0,none⟩) r.m.length c) (stL r.m k (Wd.lo (r.get A+n)) (r.get B))∧Gr V w'):=fun V h=>mo_store h hl k (Wd.lo (r.get A+n)) _ wl wb ok
 have Sd:Hid (∀(l:List UInt8) (V:World),Ru V base g { r with m:=l } bf bt→Calls Tryd.prog 74 #[.pointer (some ⟨g,0,none⟩),.int .u32 (Wd.lo (r.get A+n)),.int .i64 (ssz k:Nat)] V fun e w'=>e=.returned (.tuple #[])∧Ru w' base g ({ r with m:=l }.stored bf bt (Wd.lo (r.get A+n)) (ssz k)) bf bt∧Fu base V w'):=fun l V h=>stored_any h (Wd.lo (r.get A+n)) (ssz k) wl (ssz_le k) hs
 have Sz:Hid (∀V:World,Calls Tryd.prog 65 #[.int .i64 k,.bool true] V fun e w'=>e=.returned (.int .i64 (ssz k:Nat))∧w'=V):=fun V=>Mr.Size_store k V
 generalize stL r.m k (Wd.lo (r.get A+n)) (r.get B)=l2 at *
 clear ok wl
 generalize (Wd.lo (r.get A+n))=p at *
 generalize ssz k=sz at *
 generalize r.get A=a at *
 generalize r.get B=b at *
 clear V hop
 go_enter Tryd.func40,Tryd.ntmps40
 go_wp2_with fail
 refine (GA.out _ (HRu.out.of ((Gr.refl _).alloc _))).mono ?_
 rintro e w0 ⟨rfl,rfl⟩
 clear GA
 go_wp2_with fail
 refine (GB.out _ (HRu.out.of ((Gr.refl _).alloc _))).mono ?_
 rintro e w0 ⟨rfl,rfl⟩
 clear GB
 go_wp2_with fail
 refine (Sm.out _).mono ?_
 rintro e w0 ⟨rfl,rfl⟩
 clear Sm
 go_wp2_with fail
 refine (So.out _ (HW.out.of ((Gr.refl _).alloc _)).mem).mono ?_
 rintro e w2 ⟨j,c,rfl,M2,G2⟩
 have V3:=HW.out.of (((Gr.refl _).alloc _).trans G2)
 have V4:=V3.setM M2
 have z1:w2.cell? ⟨g,37,none⟩=some (.slice ao r.m.length cap):=(V3.top 0).trans rfl
 have z2:=V3.fz 37
 have HV4:Hid (RV (w2.setCell ⟨g,37,none⟩ (.slice (some ⟨j,0,none⟩) r.m.length c)) base g { r with m:=l2 } bf bt (.slice (some ⟨j,0,none⟩) r.m.length c) O S):=V4
 have HF4:Hid (Fu base w (w2.setCell ⟨g,37,none⟩ (.slice (some ⟨j,0,none⟩) r.m.length c))):=(Fu.ofGr (((Gr.refl _).alloc _).trans G2) hbl).trans (V3.fu ((Ch.refl _ _).setCell 37 (.slice (some ⟨j,0,none⟩) r.m.length c)))
 clear V3 V4 M2 G2 So q37
 go_wp2_with fail
 clear z1 z2
 generalize w2.setCell ⟨g,37,none⟩ (.slice (some ⟨j,0,none⟩) r.m.length c)=w4 at *
 refine (Sz.out _).mono ?_
 rintro e w5 ⟨rfl,rfl⟩
 clear Sz
 go_wp2_with fail
 refine (Sd.out l2 _ ⟨_,_,_,HV4.out⟩).mono ?_
 rintro e w6 ⟨rfl,R6,F6⟩
 have HR:Hid (Ru w6 base g ({ r with m:=l2 }.stored bf bt p sz) bf bt):=R6
 have HF:Hid (Fu base w w6):=HF4.out.trans F6
 clear R6 F6 Sd HV4 HF4 HW HV HRu
 go_wp2_with fail
 go_end0
 exact ⟨rfl,HR.out,HF.out⟩
theorem one_atom (V:Ru w base g r bf bt)(op k d A B n steps:Int)(hd0:0≤d)(hd1:d<36)(hA0:0≤A)(hA1:A<36)(hB0:0≤B)(hB1:B<36)(hn:W n)(hl:r.m.length≤4096)(hs:r.sto.length≤1000000)(ho:r.out.length≤1000000)(hc:r.n≤1000000)(hop:op=600+k)(hk0:0≤k)(hk1:k<100):
  Calls Tryd.prog 40 #[.pointer (some ⟨g,0,none⟩),.agg #[.int .i64 op,.int .i64 d,.int .i64 A,.int .i64 B,.int .u32 n],.int .i64 steps] w fun e w'=>e=.returned (.tuple #[])∧Ru w' base g (mAtom bf bt r k (r.get A) (r.get B) d) bf bt∧Fu base w w':=by
 have hbl:=V.base_le
 have HRu:Hid (Ru w base g r bf bt):=V
 obtain ⟨M,O,S,V⟩:=V
 have HV:Hid (RV w base g r bf bt M O S):=V
 have hgl:g<w.heap.size:=V.lt
 have ht:op.tmod 100=k:=by rw [Int.tmod_eq_emod_of_nonneg (by omega)];omega
 have n1:(op == 1)=false:=by simp;omega
 have n2:(op == 2)=false:=by simp;omega
 have n3:(op == 3)=false:=by simp;omega
 have n4:(op == 4)=false:=by simp;omega
 have n6:(op == 6)=false:=by simp;omega
 have n5:(op == 5)=false:=by simp;omega
 have hsub:op-k=600:=by omega
 have wa:W (r.get A):=V.ok.get A
 have wb:W (r.get B):=V.ok.get B
 have GA:Hid (∀V:World,Ru V base g r bf bt→Calls Tryd.prog 70 #[.pointer (some ⟨g,0,none⟩),.int .i64 A] V fun e w'=>e=.returned (.int .u32 (r.get A))∧w'=V):=fun V h=>get_any h A hA0 hA1
 have GB:Hid (∀V:World,Ru V base g r bf bt→Calls Tryd.prog 70 #[.pointer (some ⟨g,0,none⟩),.int .i64 B] V fun e w'=>e=.returned (.int .u32 (r.get B))∧w'=V):=fun V h=>get_any h B hB0 hB1
 have At:Hid (∀V:World,Ru V base g r bf bt→Calls Tryd.prog 76 #[.pointer (some ⟨g,0,none⟩),.int .i64 k,.agg #[.int .i64 op,.int .i64 d,.int .i64 A,.int .i64 B,.int .u32 n]] V fun e w'=>e=.returned (.tuple #[])∧Ru w' base g (mAtom bf bt r k (r.get A) (r.get B) d) bf bt∧Fu base V w'):=fun V h=>atom_any h k op d A B n hd0 hd1 hA0 hA1 hB0 hB1 hl hs
 generalize mAtom bf bt r k (r.get A) (r.get B) d=r2 at *
 generalize r.get A=a at *
 generalize r.get B=b at *
 clear V hop
 go_enter Tryd.func40,Tryd.ntmps40
 go_wp2_with fail
 refine (GA.out _ (HRu.out.of ((Gr.refl _).alloc _))).mono ?_
 rintro e w0 ⟨rfl,rfl⟩
 clear GA
 go_wp2_with fail
 refine (GB.out _ (HRu.out.of ((Gr.refl _).alloc _))).mono ?_
 rintro e w0 ⟨rfl,rfl⟩
 clear GB
 go_wp2_with fail
 refine (At.out _ (HRu.out.of ((Gr.refl _).alloc _))).mono ?_
 rintro e w3 ⟨rfl,R3,F3⟩
 have HR:Hid (Ru w3 base g r2 bf bt):=R3
 have HF:Hid (Fu base w w3):=(Fu.ofGr ((Gr.refl _).alloc _) hbl).trans F3
 clear R3 F3 At HV HRu
 go_wp2_with fail
 go_end0
 exact ⟨rfl,HR.out,HF.out⟩
theorem named_casR {op:Int}(h:0≤named op):op=1∨op=2∨op=3∨op=4∨op=5∨op=6∨(105≤op∧op≤110)∨(211≤op∧op≤215)∨(316≤op∧op≤318)∨(428≤op∧op≤445)∨(528≤op∧op≤545)∨(646≤op∧op≤656):=by
 unfold named at h
 repeat' split at h
 all_goals omega
theorem one_any (V:Ru w base g r bf bt)(op d A B n steps:Int)(hd0:0≤d)(hd1:d<36)(hA0:0≤A)(hA1:A<36)(hB0:0≤B)(hB1:B<36)(hn:W n)(hl:r.m.length≤4096)(hs:r.sto.length≤1000000)(ho:r.out.length≤1000000)(hc:r.n≤1000000)(hop:0≤named op):
  Calls Tryd.prog 40 #[.pointer (some ⟨g,0,none⟩),.agg #[.int .i64 op,.int .i64 d,.int .i64 A,.int .i64 B,.int .u32 n],.int .i64 steps] w fun e w'=>e=.returned (.tuple #[])∧Ru w' base g (mic bf bt steps r ⟨op,d,A,B,n⟩) bf bt∧Fu base w w':=by
 rcases named_casR hop with rfl|rfl|rfl|rfl|rfl|rfl|h|h|h|h|h|h
 ·show Calls _ _ _ _ fun e w'=>e=.returned (.tuple #[])∧Ru w' base g (mAt steps r n) bf bt∧Fu base w w'
  unfold mAt
  by_cases hst:(r.n:Int)=steps
  ·rw [if_pos (.inl hst)];exact one_at1 V d A B n steps hd0 hd1 hA0 hA1 hB0 hB1 hn hl hs ho hc hst
  ·cases how:r.own with
   | true=>rw [if_pos (.inr rfl)];exact one_at2 V d A B n steps hd0 hd1 hA0 hA1 hB0 hB1 hn hl hs ho hc hst how
   | false=>
    rw [if_neg (by simp [hst])]
    have:=one_at3 V d A B n steps hd0 hd1 hA0 hA1 hB0 hB1 hn hl hs ho hc hst how
    rwa [how] at this
 ·exact one_set V d A B n steps hd0 hd1 hA0 hA1 hB0 hB1 hn hl hs ho hc
 ·exact one_go V d A B n steps hd0 hd1 hA0 hA1 hB0 hB1 hn hl hs ho hc
 ·exact one_goreg V d A B n steps hd0 hd1 hA0 hA1 hB0 hB1 hn hl hs ho hc
 ·show Calls _ _ _ _ fun e w'=>e=.returned (.tuple #[])∧Ru w' base g (mCall r) bf bt∧Fu base w w'
  unfold mCall
  by_cases h0:rg r.h 17=0
  ·rw [if_pos h0];exact one_call0 V d A B n steps hd0 hd1 hA0 hA1 hB0 hB1 hn hl hs ho hc h0
  ·rw [if_neg h0]
   by_cases h1:rg r.h 17=1
   ·rw [if_pos h1];exact one_call1 V d A B n steps hd0 hd1 hA0 hA1 hB0 hB1 hn hl hs ho hc h1
   ·rw [if_neg h1];exact one_call2 V d A B n steps hd0 hd1 hA0 hA1 hB0 hB1 hn hl hs ho hc h0 h1
 ·exact one_break V d A B n steps hd0 hd1 hA0 hA1 hB0 hB1 hn hl hs ho hc
 ·obtain ⟨k,rfl⟩:∃k,op=100+k:=⟨op-100,by omega⟩
  have e:mic bf bt steps r ⟨100+k,d,A,B,n⟩=mOp bf bt r 100 k ⟨100+k,d,A,B,n⟩:=by
   unfold mic
   simp only
   rw [if_neg (by omega),if_neg (by omega),if_neg (by omega),if_neg (by omega),if_neg (by omega),if_neg (by omega),show (100+k)%100=k by omega,show 100+k-k=100 by omega]
  rw [e]
  show Calls _ _ _ _ fun e w'=>e=.returned (.tuple #[])∧Ru w' base g (if Wd.holds k (r.get A) (r.get B)=true then r.stop n else r) bf bt∧Fu base w w'
  cases hh:Wd.holds k (r.get A) (r.get B) with
  | true=>rw [if_pos rfl];exact one_if1 V (100+k) k d A B n steps hd0 hd1 hA0 hA1 hB0 hB1 hn hl hs ho hc rfl (by omega) (by omega) hh
  | false=>rw [if_neg (by simp)];exact one_if2 V (100+k) k d A B n steps hd0 hd1 hA0 hA1 hB0 hB1 hn hl hs ho hc rfl (by omega) (by omega) hh
 ·obtain ⟨k,rfl⟩:∃k,op=200+k:=⟨op-200,by omega⟩
  have e:mic bf bt steps r ⟨200+k,d,A,B,n⟩=mOp bf bt r 200 k ⟨200+k,d,A,B,n⟩:=by
   unfold mic
   simp only
   rw [if_neg (by omega),if_neg (by omega),if_neg (by omega),if_neg (by omega),if_neg (by omega),if_neg (by omega),show (200+k)%100=k by omega,show 200+k-k=200 by omega]
  rw [e]
  show Calls _ _ _ _ fun e w'=>e=.returned (.tuple #[])∧Ru w' base g (mLoad r k (Wd.lo (r.get A+n)) d) bf bt∧Fu base w w'
  unfold mLoad
  cases ok:ldOk r.m k (Wd.lo (r.get A+n)) with
  | true=>rw [if_pos rfl];exact one_ld1 V (200+k) k d A B n steps hd0 hd1 hA0 hA1 hB0 hB1 hn hl hs ho hc rfl (by omega) (by omega) ok
  | false=>rw [if_neg (by simp)];exact one_ld0 V (200+k) k d A B n steps hd0 hd1 hA0 hA1 hB0 hB1 hn hl hs ho hc rfl (by omega) (by omega) ok
 ·obtain ⟨k,rfl⟩:∃k,op=300+k:=⟨op-300,by omega⟩
  have e:mic bf bt steps r ⟨300+k,d,A,B,n⟩=mOp bf bt r 300 k ⟨300+k,d,A,B,n⟩:=by
   unfold mic
   simp only
   rw [if_neg (by omega),if_neg (by omega),if_neg (by omega),if_neg (by omega),if_neg (by omega),if_neg (by omega),show (300+k)%100=k by omega,show 300+k-k=300 by omega]
  rw [e]
  show Calls _ _ _ _ fun e w'=>e=.returned (.tuple #[])∧Ru w' base g (mStore bf bt r k (Wd.lo (r.get A+n)) (r.get B)) bf bt∧Fu base w w'
  unfold mStore
  cases ok:stOk r.m k (Wd.lo (r.get A+n)) with
  | true=>rw [if_pos rfl];exact one_st1 V (300+k) k d A B n steps hd0 hd1 hA0 hA1 hB0 hB1 hn hl hs ho hc rfl (by omega) (by omega) ok
  | false=>rw [if_neg (by simp)];exact one_st0 V (300+k) k d A B n steps hd0 hd1 hA0 hA1 hB0 hB1 hn hl hs ho hc rfl (by omega) (by omega) ok
 ·obtain ⟨k,rfl⟩:∃k,op=400+k:=⟨op-400,by omega⟩
  have e:mic bf bt steps r ⟨400+k,d,A,B,n⟩=mOp bf bt r 400 k ⟨400+k,d,A,B,n⟩:=by
   unfold mic
   simp only
   rw [if_neg (by omega),if_neg (by omega),if_neg (by omega),if_neg (by omega),if_neg (by omega),if_neg (by omega),show (400+k)%100=k by omega,show 400+k-k=400 by omega]
  rw [e]
  exact one_alu V (400+k) k d A B n steps hd0 hd1 hA0 hA1 hB0 hB1 hn hl hs ho hc rfl (by omega) (by omega)
 ·obtain ⟨k,rfl⟩:∃k,op=500+k:=⟨op-500,by omega⟩
  have e:mic bf bt steps r ⟨500+k,d,A,B,n⟩=mOp bf bt r 500 k ⟨500+k,d,A,B,n⟩:=by
   unfold mic
   simp only
   rw [if_neg (by omega),if_neg (by omega),if_neg (by omega),if_neg (by omega),if_neg (by omega),if_neg (by omega),show (500+k)%100=k by omega,show 500+k-k=500 by omega]
  rw [e]
  exact one_alun V (500+k) k d A B n steps hd0 hd1 hA0 hA1 hB0 hB1 hn hl hs ho hc rfl (by omega) (by omega)
 ·obtain ⟨k,rfl⟩:∃k,op=600+k:=⟨op-600,by omega⟩
  have e:mic bf bt steps r ⟨600+k,d,A,B,n⟩=mOp bf bt r 600 k ⟨600+k,d,A,B,n⟩:=by
   unfold mic
   simp only
   rw [if_neg (by omega),if_neg (by omega),if_neg (by omega),if_neg (by omega),if_neg (by omega),if_neg (by omega),show (600+k)%100=k by omega,show 600+k-k=600 by omega]
  rw [e]
  exact one_atom V (600+k) k d A B n steps hd0 hd1 hA0 hA1 hB0 hB1 hn hl hs ho hc rfl (by omega) (by omega)
end Go.Proofs.YtkdghgiajifbdaaDoor.Mi
