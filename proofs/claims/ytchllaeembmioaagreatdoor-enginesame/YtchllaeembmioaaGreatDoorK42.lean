/-
  Ey, Bm2, Tt: texts of ours that lie in one file.
-/
import Derived.Test.YtchllaeembmioaaGreatDoorK32
import Derived.Test.YtchllaeembmioaaGreatDoorK41
import Derived.Test.YtchllaeembmioaaGreatDoorK24
import Derived.Test.YtchllaeembmioaaGreatDoorK10
import Derived.Test.YtchllaeembmioaaGreatDoorK15
import Derived.Test.YtchllaeembmioaaGreatDoorK07
import Derived.Test.YtchllaeembmioaaGreatDoorK16
import Derived.LaidMore
set_option linter.unusedVariables false
set_option linter.unusedSimpArgs false
set_option maxHeartbeats 8000000
set_option maxRecDepth 100000
namespace Go.Proofs.YtchllaeembmioaaGreatDoor.En
open Go.ChangeShapes Go.WideShapes Go.ChangeAt Go.RowKit Mm Hh Hc Mc

theorem results_cct {P:Program}{fn:Func}{p1 p2 t:Tmp}{ty1 ty2:TypeId}(h:fn.results=#[.cell p1 ty1,.cell p2 ty2,.tmp t])(tmps:Array Value)(w:World)(g1 g2:Nat)(tt1 tt2:TypeId)(cs1 cs2:Array Value)(fr1 fr2:Nat×Nat)(d1 d2:TypeDesc)
  (v:Value)(hp1:tmps.getD p1 undef=.pointer (some ⟨g1,0,none⟩))(hp2:tmps.getD p2 undef=.pointer (some ⟨g2,0,none⟩))(hv:tmps.getD t undef=v)(hg1:w.heap[g1]?=some (.cells cs1 tt1 fr1))(hg2:w.heap[g2]?=some (.cells cs2 tt2 fr2))
  (hu1:P.underlying ty1=some d1)(hd1:(match d1 with|.struct _|.array _ _=>true|_=>false)=true)(hi1:(P.info? ty1).map (·.size)=some cs1.size)
  (hu2:P.underlying ty2=some d2)(hd2:(match d2 with|.struct _|.array _ _=>true|_=>false)=true)(hi2:(P.info? ty2).map (·.size)=some cs2.size):
  (results fn tmps).run P w=.ok (.tuple #[.agg cs1,.agg cs2,v]) w:=by
 subst hv
 have hp1':tmps[p1]?.getD undef=.pointer (some ⟨g1,0,none⟩):=by simpa using hp1
 have hp2':tmps[p2]?.getD undef=.pointer (some ⟨g2,0,none⟩):=by simpa using hp2
 simp [results,h,hp1',hp2',asAddr,run_loadVar_row w g1 tt1 ty1 cs1 fr1 d1 hg1 hu1 hd1 hi1,run_loadVar_row w g2 tt2 ty2 cs2 fr2 d2 hg2 hu2 hd2 hi2]
theorem three_up {w w':World}{A B C:Array Value}{t1 t2 t3:Nat}(G:Gr (((w.alloc (.cells A t1)).alloc (.cells B t2)).alloc (.cells C t3)) w'):w'.heap[w.heap.size]?=some (.cells A t1 (0,0))∧w'.heap[w.heap.size+1]?=some (.cells B t2 (0,0))∧w'.heap[w.heap.size+1+1]?=some (.cells C t3 (0,0)):=by
 have e1:(w.alloc (.cells A t1)).heap.size=w.heap.size+1:=by simp
 have e2:((w.alloc (.cells A t1)).alloc (.cells B t2)).heap.size=w.heap.size+1+1:=by simp
 have a:=heap_alloc_new w (.cells A t1)
 have b:=heap_alloc_new (w.alloc (.cells A t1)) (.cells B t2)
 have c:=heap_alloc_new ((w.alloc (.cells A t1)).alloc (.cells B t2)) (.cells C t3)
 rw [e1] at b
 rw [e2] at c
 exact ⟨Kc.up_h (Gr.trans (((Gr.refl _).alloc _).alloc _) G) a,Kc.up_h (Gr.trans ((Gr.refl _).alloc _) G) b,Kc.up_h G c⟩
theorem iSh:(Tryz.prog.info? 32).map (·.size)=some 4:=by kernel_rfl
theorem run_no {ma ha pa:Option Addr}{hn pn:Nat}(mc hc pc:Nat){m:List UInt8}{hs:List Hv}{ps:List (Int×Int)}{w:World}(mn:Nat)(room:Int)(hmn:m.length=mn)(H:Hs w ha hn hs)(P:Ps w pa pn ps)(b1:mn≤140737488351232)(b2:hn≤140737488351232)(b3:pn≤140737488351232)(hno:¬wrong m hs ps=0):ErNo w ma ha pa mn mc hn hc pn pc room (wrong m hs ps):=by
 intro W0 G0
 have HN:Hid (∀W:World,Gr W0 W→Calls Tryz.prog 17 #[.agg #[.slice ma mn mc,.slice ha hn hc],.slice pa pn pc] W fun e w'=>e=.returned (.tuple #[.agg #[.slice none 0 0,.slice none 0 0,.slice none 0 0,.int .i64 0],.int .i64 (wrong m hs ps)])∧Gr W w'):=fun W G=>NewBoard_no mc hc pc mn hmn (H.of (G0.trans G)) (P.of (G0.trans G)) b1 b2 b3 hno
 clear H P hmn G0
 generalize wrong m hs ps=E at *
 have hE:(E != 0)=true:=by simpa using hno
 clear hno
 refine Calls.mono (R:=fun e w'=>e=.returned (.tuple #[.agg #[.slice none 0 0,.slice none 0 0,.slice none 0 0,.int .i64 0],.agg #[.int .i64 0,.slice none 0 0,.int .i64 0,.int .i64 0],.int .i64 E])∧Gr W0 w') ?_ (fun e w' h=>⟨_,none,0,h.1,machineRuns.zeros _,h.2⟩)
 clear w
 go_enter Tryz.func8,Tryz.ntmps8
 go_wp2_with fail
 refine (HN.out _ ((((Gr.refl _).alloc _).alloc _).alloc _)).mono ?_
 rintro e w1 ⟨rfl,G1⟩
 obtain ⟨_,u1,u2⟩:=three_up G1
 have HU1:Hid (w1.heap[W0.heap.size+1]?=some (.cells #[.slice none 0 0,.slice none 0 0,.slice none 0 0,.int .i64 0] 32 (0,0))):=u1
 have HU2:Hid (w1.heap[W0.heap.size+1+1]?=some (.cells #[.int .i64 0,.slice none 0 0,.int .i64 0,.int .i64 0] 35 (0,0))):=u2
 have HG1:Hid (Gr W0 w1):=((((Gr.refl _).alloc _).alloc _).alloc _).trans G1
 clear G1 HN u1 u2
 have HA1:Hid (∀Y:Array Value,(w1.alloc (.cells Y 59)).heap[W0.heap.size+1]?=some (.cells #[.slice none 0 0,.slice none 0 0,.slice none 0 0,.int .i64 0] 32 (0,0))):=fun Y=>Kc.up_h ((Gr.refl _).alloc _) HU1.out
 have HA2:Hid (∀Y Z:Array Value,((w1.alloc (.cells Y 59)).setRow (W0.heap.size+1) Z).heap[W0.heap.size+1+1]?=some (.cells #[.int .i64 0,.slice none 0 0,.int .i64 0,.int .i64 0] 35 (0,0))):=fun Y Z=>(setRow_other _ _ _ _ (by omega)).trans (Kc.up_h ((Gr.refl _).alloc _) HU2.out)
 go_wp2_with (first
  | (refine wpList_store_row rfl 32 _ _ rfl (W0.heap.size+1) #[.slice none 0 0,.slice none 0 0,.slice none 0 0,.int .i64 0] rfl rfl 32 #[.slice none 0 0,.slice none 0 0,.slice none 0 0,.int .i64 0] ?rr1 iSh rfl (by kernel_rfl) ?_;(case rr1=>exact HA1.out _))
  | (refine wpList_store_row rfl 35 _ _ rfl (W0.heap.size+1+1) #[.int .i64 0,.slice none 0 0,.int .i64 0,.int .i64 0] rfl rfl 35 #[.int .i64 0,.slice none 0 0,.int .i64 0,.int .i64 0] ?rr2 Kc.iCa rfl (by kernel_rfl) ?_;(case rr2=>exact HA2.out _ _)))
 refine bodyPost_ret (v:=.tuple #[.agg #[.slice none 0 0,.slice none 0 0,.slice none 0 0,.int .i64 0],.agg #[.int .i64 0,.slice none 0 0,.int .i64 0,.int .i64 0],.int .i64 E]) (results_cct Tryz.results8 _ _ (W0.heap.size+1) (W0.heap.size+1+1) 32 35 #[.slice none 0 0,.slice none 0 0,.slice none 0 0,.int .i64 0] #[.int .i64 0,.slice none 0 0,.int .i64 0,.int .i64 0] (0,0) (0,0) _ _ _ rfl rfl rfl ((setRow_other _ _ _ _ (by omega)).trans (setRow_heap _ _ _ _ _ (0,0) (HA1.out _))) (setRow_heap _ _ _ _ _ (0,0) (HA2.out _ _)) Tryz.underlying32 rfl iSh Tryz.underlying35 rfl Kc.iCa) rfl ⟨rfl,?_⟩
 exact gr_setRow (gr_setRow (HG1.out.alloc _) (by omega) _) (by omega) _
theorem run_rng {ma ha pa:Option Addr}{hn pn:Nat}(mc hc pc:Nat){m:List UInt8}{hs:List Hv}{ps:List (Int×Int)}{w:World}(mn:Nat)(room:Int)(M:Mem w ma mn m)(hcap:ma=none→mc=0)(H:Hs w ha hn hs)(P:Ps w pa pn ps)(hy:wrong m hs ps=0)(hr:room<0∨¬room<0∧64<room):ErNo w ma ha pa mn mc hn hc pn pc room 3:=by
 intro W0 G0
 obtain ⟨b1,b2,b4,_,b3,_⟩:=wrong_ok hy
 have hml:=M.len
 have hhl:=H.len
 have hpl:=P.len
 have HN:Hid (∀W:World,Gr W0 W→Calls Tryz.prog 17 #[.agg #[.slice ma mn mc,.slice ha hn hc],.slice pa pn pc] W fun e w'=>∃a c gh hc,e=.returned (.tuple #[.agg #[.slice a mn c,.slice (some ⟨gh,0,none⟩) hn hc,.slice none 0 0,.int .i64 0],.int .i64 0])∧Own w' 0 (.slice a mn c) m∧W.heap.size≤gh∧HRow w' gh hs∧Gr W w'):=fun W G=>NewBoard_yes mc hc pc mn (M.of (G0.trans G)) hcap (H.of (G0.trans G)) (P.of (G0.trans G)) (by omega) hy (by omega) (by omega) (by omega)
 have HNw:Hid (∀W:World,Calls Tryz.prog 18 #[.int .i64 room] W fun e w'=>e=.returned (.tuple #[.agg #[.int .i64 0,.slice none 0 0,.int .i64 0,.int .i64 0],.int .i64 3])∧Gr W w'):=fun W=>Kc.New_aux W room 0 3 (by rcases hr with h|⟨h1,h2⟩;exact .inl ⟨h,rfl,rfl⟩;exact .inr (.inl ⟨h1,h2,rfl,rfl⟩))
 clear H P hml hhl hpl M hcap hy b1 b2 b4 b3 G0 hr
 refine Calls.mono (R:=fun e w'=>e=.returned (.tuple #[.agg #[.slice none 0 0,.slice none 0 0,.slice none 0 0,.int .i64 0],.agg #[.int .i64 0,.slice none 0 0,.int .i64 0,.int .i64 0],.int .i64 3])∧Gr W0 w') ?_ (fun e w' h=>⟨_,none,0,h.1,machineRuns.zeros _,h.2⟩)
 clear w
 go_enter Tryz.func8,Tryz.ntmps8
 go_wp2_with fail
 refine (HN.out _ ((((Gr.refl _).alloc _).alloc _).alloc _)).mono ?_
 rintro e w1 ⟨a1,c1,gh,hc1,rfl,_,_,_,G1⟩
 obtain ⟨_,u1,u2⟩:=three_up G1
 have HU1:Hid (w1.heap[W0.heap.size+1]?=some (.cells #[.slice none 0 0,.slice none 0 0,.slice none 0 0,.int .i64 0] 32 (0,0))):=u1
 have HU2:Hid (w1.heap[W0.heap.size+1+1]?=some (.cells #[.int .i64 0,.slice none 0 0,.int .i64 0,.int .i64 0] 35 (0,0))):=u2
 have HG1:Hid (Gr W0 w1):=((((Gr.refl _).alloc _).alloc _).alloc _).trans G1
 clear G1 HN u1 u2
 go_wp2_with fail
 refine (HNw.out _).mono ?_
 rintro e w2 ⟨rfl,G2⟩
 have HG2:Hid (Gr w1 w2):=((Gr.refl w1).alloc _).trans G2
 clear G2 HNw
 have HA1:Hid (∀Y:Array Value,(w2.alloc (.cells Y 35)).heap[W0.heap.size+1]?=some (.cells #[.slice none 0 0,.slice none 0 0,.slice none 0 0,.int .i64 0] 32 (0,0))):=fun Y=>Kc.up_h (HG2.out.alloc _) HU1.out
 have HA2:Hid (∀Y Z:Array Value,((w2.alloc (.cells Y 35)).setRow (W0.heap.size+1) Z).heap[W0.heap.size+1+1]?=some (.cells #[.int .i64 0,.slice none 0 0,.int .i64 0,.int .i64 0] 35 (0,0))):=fun Y Z=>(setRow_other _ _ _ _ (by omega)).trans (Kc.up_h (HG2.out.alloc _) HU2.out)
 go_wp2_with (first
  | (refine wpList_store_row rfl 32 _ _ rfl (W0.heap.size+1) #[.slice none 0 0,.slice none 0 0,.slice none 0 0,.int .i64 0] rfl rfl 32 #[.slice none 0 0,.slice none 0 0,.slice none 0 0,.int .i64 0] ?rr1 iSh rfl (by kernel_rfl) ?_;(case rr1=>exact HA1.out _))
  | (refine wpList_store_row rfl 35 _ _ rfl (W0.heap.size+1+1) #[.int .i64 0,.slice none 0 0,.int .i64 0,.int .i64 0] rfl rfl 35 #[.int .i64 0,.slice none 0 0,.int .i64 0,.int .i64 0] ?rr2 Kc.iCa rfl (by kernel_rfl) ?_;(case rr2=>exact HA2.out _ _)))
 refine bodyPost_ret (v:=.tuple #[.agg #[.slice none 0 0,.slice none 0 0,.slice none 0 0,.int .i64 0],.agg #[.int .i64 0,.slice none 0 0,.int .i64 0,.int .i64 0],.int .i64 3]) (results_cct Tryz.results8 _ _ (W0.heap.size+1) (W0.heap.size+1+1) 32 35 #[.slice none 0 0,.slice none 0 0,.slice none 0 0,.int .i64 0] #[.int .i64 0,.slice none 0 0,.int .i64 0,.int .i64 0] (0,0) (0,0) _ _ _ rfl rfl rfl ((setRow_other _ _ _ _ (by omega)).trans (setRow_heap _ _ _ _ _ (0,0) (HA1.out _))) (setRow_heap _ _ _ _ _ (0,0) (HA2.out _ _)) Tryz.underlying32 rfl iSh Tryz.underlying35 rfl Kc.iCa) rfl ⟨rfl,?_⟩
 exact gr_setRow (gr_setRow ((HG1.out.trans HG2.out).alloc _) (by omega) _) (by omega) _
structure Rj (m:List UInt8) (hs:List Hv) (ps:List (Int×Int)) (room:Int) (j:Nat) (L:List Kc.Bv) (pu sl:Int) (mn':Nat):Prop where
 ek:Ek room (play ⟨hs,m,[],0⟩ ((nums ps).take j)).m L pu sl mn'
 hi:mn'≤(play ⟨hs,m,[],0⟩ ((nums ps).take j)).steps
 few:Few (play ⟨hs,m,[],0⟩ ((nums ps).take j)) (400*j)
 none:j=0→L=[]∧mn'=0
 did:0<j→DidF m hs ps→0<mn'
theorem Rj.on {m:List UInt8}{hs:List Hv}{ps:List (Int×Int)}{room:Int}{j:Nat}{L L':List Kc.Bv}{pu sl pu' sl':Int}{mn' m2 hn mn k n:Nat}(R:Rj m hs ps room j L pu sl mn')(F:Fit (play ⟨hs,m,[],0⟩ ((nums ps).take j)) hn mn)(hk:k<hn)(hn4:n≤400)(hp:ps[j]?=some ((k:Int),(n:Int)))
  (K:Ek room (runs (play ⟨hs,m,[],0⟩ ((nums ps).take j)) k n).m L' pu' sl' m2)(h1:mn'≤m2∧m2≤(runs (play ⟨hs,m,[],0⟩ ((nums ps).take j)) k n).steps)(h2:L=[]→0<n→(at' (play ⟨hs,m,[],0⟩ ((nums ps).take j)) k).state=0→0<(Bk.blk (play ⟨hs,m,[],0⟩ ((nums ps).take j)).m (at' (play ⟨hs,m,[],0⟩ ((nums ps).take j)) k).pc 16 0).length→mn'<m2):
  play ⟨hs,m,[],0⟩ ((nums ps).take (j+1))=runs (play ⟨hs,m,[],0⟩ ((nums ps).take j)) k n∧Rj m hs ps room (j+1) L' pu' sl' m2:=by
 have e:play ⟨hs,m,[],0⟩ ((nums ps).take (j+1))=runs (play ⟨hs,m,[],0⟩ ((nums ps).take j)) k n:=by
  rw [nums_get hp,play_app,play_cons]
  simp only [Int.toNat_natCast]
  rfl
 refine ⟨e,by rw [e];exact K,by rw [e];exact h1.2,?_,fun h=>absurd h (by omega),fun _ D=>?_⟩
 ·rw [e,runs_wk (by rw [F.len];exact hk) n,show 400*(j+1)=400*j+400 by omega]
  have:=wk_ok n (w0_ok F hk)
  have e0:(w0 (play ⟨hs,m,[],0⟩ ((nums ps).take j)) k).n=0:=rfl
  exact tk_few R.few this.1 (by omega)
 ·by_cases hj:j=0
  ·subst hj
   obtain ⟨hL,hm⟩:=R.none rfl
   obtain ⟨p,h,d1,d2,d3,d4,d5⟩:=D
   rw [hp] at d1
   injection d1 with d1
   subst d1
   simp only [Int.toNat_natCast] at d3 d2
   have ea:at' (play ⟨hs,m,[],0⟩ ((nums ps).take 0)) k=h:=by
    show hs.getD k hN=h
    simp [List.getD,d3]
   have:=h2 hL (by omega) (by rw [ea];exact d4) (by rw [ea];exact d5)
   omega
  ·have:=R.did (by omega) D
   omega
theorem Rj.kept {m:List UInt8}{hs:List Hv}{ps:List (Int×Int)}{room:Int}{j:Nat}{L:List Kc.Bv}{pu sl:Int}{mn':Nat}(R:Rj m hs ps room j L pu sl mn')(hj:ps.length≤j):Kept room (play ⟨hs,m,[],0⟩ ((nums ps).take j)).m (DidF m hs ps) L pu sl:=by
 refine ⟨R.ek.cok,R.ek.fresh,fun _ D=>?_⟩
 have h0:0<j:=by
  obtain ⟨p,h,d1,_⟩:=D
  have:=(List.getElem?_eq_some_iff.1 d1).1
  omega
 have h1:=R.did h0 D
 have h2:=R.ek.cnt
 have h3:=R.ek.p0
 have h4:=R.ek.s0
 by_cases hL:L=[]
 ·subst hL
  simp at h2
  omega
 ·exact .inl hL
theorem run_yes {ma ha pa:Option Addr}{hn pn:Nat}(mc hc pc:Nat){m:List UInt8}{hs:List Hv}{ps:List (Int×Int)}{w:World}(mn:Nat)(room:Int)(T:Tall w.heap.size w)(M:Mem w ma mn m)(hcap:ma=none→mc=0)(H:Hs w ha hn hs)(P:Ps w pa pn ps)(hy:wrong m hs ps=0)(hr0:0≤room)(hr1:room≤64):ErYes w ma ha pa mn mc hn hc pn pc room (play ⟨hs,m,[],0⟩ (nums ps)) (Kept room (play ⟨hs,m,[],0⟩ (nums ps)).m (DidF m hs ps)):=by
 intro W0 G0
 obtain ⟨b1,b2,b4,hmay,b3,hpk⟩:=wrong_ok hy
 have hml:=M.len
 have hhl:=H.len
 have hpl:=P.len
 have HN:Hid (∀W:World,Gr W0 W→Calls Tryz.prog 17 #[.agg #[.slice ma mn mc,.slice ha hn hc],.slice pa pn pc] W fun e w'=>∃a c gh hc,e=.returned (.tuple #[.agg #[.slice a mn c,.slice (some ⟨gh,0,none⟩) hn hc,.slice none 0 0,.int .i64 0],.int .i64 0])∧Own w' 0 (.slice a mn c) m∧W.heap.size≤gh∧HRow w' gh hs∧Gr W w'):=fun W G=>NewBoard_yes mc hc pc mn (M.of (G0.trans G)) hcap (H.of (G0.trans G)) (P.of (G0.trans G)) (by omega) hy (by omega) (by omega) (by omega)
 have HNw:Hid (∀W:World,Calls Tryz.prog 18 #[.int .i64 room] W fun e w'=>e=.returned (.tuple #[.agg #[.int .i64 room,.slice none 0 0,.int .i64 0,.int .i64 0],.int .i64 0])∧Gr W w'):=fun W=>Kc.New_aux W room room 0 (.inr (.inr ⟨by omega,by omega,rfl,rfl⟩))
 have HF0:Hid (Fit ⟨hs,m,[],0⟩ hn mn):=⟨hhl,hml,fun h hm=>⟨H.ok h hm,hmay h hm⟩⟩
 have HP:Hid (Ps W0 pa pn ps):=P.of G0
 have HPL:Hid (ps.length=pn):=hpl
 have HPK:Hid (∀p∈ps,0≤p.1∧p.1<hn∧0≤p.2∧p.2≤400):=by rw [hhl] at hpk;exact hpk
 have HHL:Hid (hs.length=hn):=hhl
 have HT:Hid (Tall w.heap.size W0):=T.below G0
 have hw0:w.heap.size≤W0.heap.size:=G0.size
 have c4:hn≤4:=by omega
 have m4:mn≤4096:=by omega
 have p4:pn≤300:=by omega
 obtain ⟨tb,htb⟩:∃tb:Nat,tb=w.heap.size:=⟨_,rfl⟩
 rw [←htb] at HT hw0
 clear M H P hy hcap T hmay hpk hml hhl hpl b1 b2 b4 b3 G0 htb
 clear w
 have hmm:=@run_makeMap Tryz.prog
 go_enter Tryz.func8,Tryz.ntmps8
 go_wp2_with fail
 refine (HN.out _ ((((Gr.refl _).alloc _).alloc _).alloc _)).mono ?_
 rintro e w1 ⟨a1,c1,gh,hc1,rfl,O1,hgh,R1,G1⟩
 obtain ⟨_,u1,u2⟩:=three_up G1
 have HU1:Hid (w1.heap[W0.heap.size+1]?=some (.cells #[.slice none 0 0,.slice none 0 0,.slice none 0 0,.int .i64 0] 32 (0,0))):=u1
 have HU2:Hid (w1.heap[W0.heap.size+1+1]?=some (.cells #[.int .i64 0,.slice none 0 0,.int .i64 0,.int .i64 0] 35 (0,0))):=u2
 have HG1:Hid (Gr W0 w1):=((((Gr.refl _).alloc _).alloc _).alloc _).trans G1
 have HO1:Hid (Own w1 0 (.slice a1 mn c1) m):=O1
 have HR1:Hid (HRow w1 gh hs):=R1
 have hgh2:W0.heap.size+3≤gh:=by simpa using hgh
 clear G1 HN u1 u2 O1 R1 hgh
 go_wp2_with fail
 refine (HNw.out _).mono ?_
 rintro e w2 ⟨rfl,G2⟩
 have HG2:Hid (Gr w1 w2):=((Gr.refl w1).alloc _).trans G2
 have HB2:Hid (w2.heap[w1.heap.size]?=some (.cells #[.slice a1 mn c1,.slice (some ⟨gh,0,none⟩) hn hc1,.slice none 0 0,.int .i64 0] 59 (0,0))):=Kc.up_h G2 (heap_alloc_new w1 _)
 have k0:∀o,(w2.alloc o).cell? ⟨w1.heap.size,0,none⟩=some (.slice a1 mn c1):=fun o=>cell_of_row _ _ _ _ _ _ (Kc.up_h ((Gr.refl _).alloc _) HB2.out)
 have k1:∀o,(w2.alloc o).cell? ⟨w1.heap.size,1,none⟩=some (.slice (some ⟨gh,0,none⟩) hn hc1):=fun o=>cell_of_row _ _ _ _ _ _ (Kc.up_h ((Gr.refl _).alloc _) HB2.out)
 have k2:∀o,(w2.alloc o).cell? ⟨w1.heap.size,2,none⟩=some (.slice none 0 0):=fun o=>cell_of_row _ _ _ _ _ _ (Kc.up_h ((Gr.refl _).alloc _) HB2.out)
 have k3:∀o,(w2.alloc o).cell? ⟨w1.heap.size,3,none⟩=some (.int .i64 0):=fun o=>cell_of_row _ _ _ _ _ _ (Kc.up_h ((Gr.refl _).alloc _) HB2.out)
 clear G2 HNw
 go_wp2_with fail
 obtain ⟨g,hg⟩:∃g:Nat,g=w2.heap.size+1+1:=⟨_,rfl⟩
 obtain ⟨mb,hmb⟩:∃mb:Nat,mb=w2.heap.size+1:=⟨_,rfl⟩
 refine Kc.atWd (fun W=>Ew 0 W (W0.heap.size+3) g room (.slice a1 mn c1) gh hc1 (.slice none 0 0) none 0 0 mb 0 (.map []) ⟨hs,m,[],0⟩ [] 0 0∧W.heap[W0.heap.size+1]?=some (.cells #[.slice none 0 0,.slice none 0 0,.slice none 0 0,.int .i64 0] 32 (0,0))∧W.heap[W0.heap.size+1+1]?=some (.cells #[.int .i64 0,.slice none 0 0,.int .i64 0,.int .i64 0] 35 (0,0))∧Gr W0 W) ?_ ?_
 ·have hs1:W0.heap.size+2<w1.heap.size:=by have:=(Array.getElem?_eq_some_iff.1 HU2.out).1;omega
  have hs2:=HG2.out.size
  have e1:(w2.alloc (.cells #[.int .i64 room,.slice none 0 0,.int .i64 0,.int .i64 0] 35)).heap.size=w2.heap.size+1:=by simp
  have e2:((w2.alloc (.cells #[.int .i64 room,.slice none 0 0,.int .i64 0,.int .i64 0] 35)).alloc (.map #[] 0)).heap.size=w2.heap.size+1+1:=by simp
  have GA:∀o1 o2 o3:Obj,Gr w1 (((w2.alloc o1).alloc o2).alloc o3):=fun o1 o2 o3=>((HG2.out.alloc _).alloc _).alloc _
  have hblk:=heap_alloc_new ((w2.alloc (.cells #[.int .i64 room,.slice none 0 0,.int .i64 0,.int .i64 0] 35)).alloc (.map #[] 0)) (.cells #[.slice a1 mn c1,.slice (some ⟨gh,0,none⟩) hn hc1,.slice none 0 0,.int .i64 0,.int .i64 room,.slice none 0 0,.int .i64 0,.int .i64 0,.map (some (w2.heap.size+1))] 66)
  have hmap:=(World.ownsMap_made (w2.alloc (.cells #[.int .i64 room,.slice none 0 0,.int .i64 0,.int .i64 0] 35)) Tryz.prog 42 Rh).alloc (.cells #[.slice a1 mn c1,.slice (some ⟨gh,0,none⟩) hn hc1,.slice none 0 0,.int .i64 0,.int .i64 room,.slice none 0 0,.int .i64 0,.int .i64 0,.map (some (w2.heap.size+1))] 66)
  rw [e2] at hblk
  rw [e1] at hmap
  refine ⟨⟨⟨by decide,by decide,by decide,by omega,?_,own_gr HO1.out (GA _ _ _),hgh2,HR1.out.of (GA _ _ _),World.ownsRow_nil _ _ _ _⟩,Kc.bt_nil _ _ _,Nat.le_refl _,by omega,?_,fun b hb=>(by cases hb)⟩,Kc.up_h (GA _ _ _) HU1.out,Kc.up_h (GA _ _ _) HU2.out,HG1.out.trans (GA _ _ _)⟩
  ·rw [hg,hmb]
   show _=some (Obj.cells #[.slice a1 mn c1,.slice (some ⟨gh,0,none⟩) hs.length hc1,.slice none 0 0,.int .i64 ((0:Nat):Int),.int .i64 room,.slice none 0 0,.int .i64 0,.int .i64 0,.map (some (w2.heap.size+1))] 66 (0,0))
   rw [HHL.out]
   exact hblk
  ·rw [hmb]
   exact hmap
 rw [←hg,←hmb]
 clear hg hmb k0 k1 k2 k3 HB2 HG2 HU1 HU2 HG1 HO1 HR1 hgh2 hmm
 rintro W3 ⟨E3,u1,u2,G3⟩
 have HU1:Hid (W3.heap[W0.heap.size+1]?=some (.cells #[.slice none 0 0,.slice none 0 0,.slice none 0 0,.int .i64 0] 32 (0,0))):=u1
 have HU2:Hid (W3.heap[W0.heap.size+1+1]?=some (.cells #[.int .i64 0,.slice none 0 0,.int .i64 0,.int .i64 0] 35 (0,0))):=u2
 have HG3:Hid (Gr W0 W3):=G3
 have HE3:Hid (Ev 0 W3 (W0.heap.size+3) g room ⟨hs,m,[],0⟩ [] 0 0 0):=⟨_,_,_,_,_,_,_,_,_,E3⟩
 have hb3:W0.heap.size+3≤W3.heap.size:=E3.base_le
 have HR0:Hid (Rj m hs ps room 0 [] 0 0 0):=⟨Ek.nil hr0 _,Nat.zero_le _,⟨Nat.le_refl _,Nat.le_refl _⟩,fun _=>⟨rfl,rfl⟩,fun h=>absurd h (by omega)⟩
 have HGx:Hid (∀V:World,Below (W0.heap.size+3) W3 V→Gr W0 V∧V.heap[W0.heap.size+1]?=some (.cells #[.slice none 0 0,.slice none 0 0,.slice none 0 0,.int .i64 0] 32 (0,0))∧V.heap[W0.heap.size+1+1]?=some (.cells #[.int .i64 0,.slice none 0 0,.int .i64 0,.int .i64 0] 35 (0,0))):=fun V B=>⟨gr_trans2 HG3.out B (by omega),(B.block _ (by omega)).trans HU1.out,(B.block _ (by omega)).trans HU2.out⟩
 have HFt:Hid (∀j,Fit (play ⟨hs,m,[],0⟩ ((nums ps).take j)) hn mn):=fun j=>play_fit _ (fun q hq=>by
  obtain ⟨r,hr,rfl⟩:=List.mem_map.1 (List.mem_of_mem_take hq)
  have:=HPK.out r hr
  show r.1.toNat<hn
  omega) HF0.out
 clear u1 u2 G3 E3 HU1 HU2 HG3 HF0 HHL
 go_loopw [42] (fun i wr=>∃j:Nat,j≤pn∧i=.int .i64 j∧(∃L pu sl mn',Ev 0 wr (W0.heap.size+3) g room (play ⟨hs,m,[],0⟩ ((nums ps).take j)) L pu sl mn'∧Rj m hs ps room j L pu sl mn')∧Below (W0.heap.size+3) W3 wr) (fun i _=>pn-(intOf i).toNat)
 case atStart=>exact ⟨0,Nat.zero_le _,rfl,⟨[],0,0,0,HE3.out,HR0.out⟩,Below.refl _ _⟩
 case round=>
  obtain ⟨j,hj,rfl,⟨L,pu,sl,mn',E4,R4⟩,B4⟩:=hrel
  have HE4:Hid (Ev 0 wr (W0.heap.size+3) g room (play ⟨hs,m,[],0⟩ ((nums ps).take j)) L pu sl mn'):=E4
  have HR4:Hid (Rj m hs ps room j L pu sl mn'):=R4
  have HB4:Hid (Below (W0.heap.size+3) W3 wr):=B4
  have HG4:Hid (Gr W0 wr):=(HGx.out _ B4).1
  have hb4:W0.heap.size+3≤wr.heap.size:=Nat.le_trans hb3 B4.size
  clear E4 R4 B4 HE3 HR0
  by_cases hlt:j<pn
  ·obtain ⟨p,hp⟩:∃p,ps[j]?=some p:=⟨_,List.getElem?_eq_getElem (by rw [HPL.out];exact hlt)⟩
   obtain ⟨z0,z1,z2,z3⟩:=HPK.out p (List.mem_of_getElem? hp)
   obtain ⟨b',o',rfl,hb',hcell'⟩:=HP.out.spot (by omega)
   have q0:wr.cell? ⟨b',o'+j*2,none⟩=some (.int .i64 p.1):=(HG4.out.cell _ (by exact hb')).trans (hcell' j p hp).1
   have q1:wr.cell? ⟨b',o'+j*2+1,none⟩=some (.int .i64 p.2):=(HG4.out.cell _ (by exact hb')).trans (hcell' j p hp).2
   clear hcell'
   obtain ⟨p1,p2⟩:=p
   simp only at *
   obtain ⟨k,rfl⟩:=Int.eq_ofNat_of_zero_le z0
   obtain ⟨n,rfl⟩:=Int.eq_ofNat_of_zero_le z2
   have hk:k<hn:=by omega
   have hn4:n≤400:=by omega
   have HTu:Hid (∀V:World,Gr wr V→Calls Tryz.prog 19 #[.pointer (some ⟨g,0,none⟩),.agg #[.int .i64 k,.int .i64 n]] V fun e w'=>e=.returned (.tuple #[])∧(∃L' pu' sl' m2,Ev 0 w' (W0.heap.size+3) g room (play ⟨hs,m,[],0⟩ ((nums ps).take (j+1))) L' pu' sl' m2∧Rj m hs ps room (j+1) L' pu' sl' m2)∧Below (W0.heap.size+3) V w'):=fun V G=>by
    have f1:=HR4.out.few.1
    have f2:=HR4.out.few.2
    refine (turn_any (HE4.out.of G) HR4.out.ek (HT.out.below (Below.mono (HG4.out.trans G) hw0)) (by omega) (HFt.out j) m4 c4 hr0 hr1 HR4.out.hi f1 (by omega) hk hn4).mono ?_
    rintro e w' ⟨rfl,⟨L',pu',sl',m2,E',K',h1,h2⟩,B'⟩
    obtain ⟨x1,x2⟩:=HR4.out.on (HFt.out j) hk hn4 hp K' h1 h2
    exact ⟨rfl,⟨L',pu',sl',m2,by rw [x1];exact E',x2⟩,B'⟩
   clear z0 z1 z2 z3 hp HE4 HR4
   go_wp2_with fail
   refine (HTu.out _ ((Gr.refl _).alloc _)).mono ?_
   rintro e w5 ⟨rfl,V5,B5⟩
   have HV5:Hid (∃L' pu' sl' m2,Ev 0 w5 (W0.heap.size+3) g room (play ⟨hs,m,[],0⟩ ((nums ps).take (j+1))) L' pu' sl' m2∧Rj m hs ps room (j+1) L' pu' sl' m2):=V5
   have HB5:Hid (Below (W0.heap.size+3) W3 w5):=HB4.out.trans ((Below.mono ((Gr.refl wr).alloc _) hb4).trans B5)
   clear V5 B5 HTu q0 q1
   go_wp2_with fail
   go_roundw
   case rel=>exact ⟨j+1,by omega,by go_num,HV5.out,HB5.out⟩
   case measure=>simp [intOf];omega
  ·have ej:ps.length≤j:=by rw [HPL.out];omega
   have HE:Hid ((nums ps).take j=nums ps):=by unfold Hid;rw [List.take_of_length_le (by unfold nums;rw [List.length_map];exact ej)]
   have HKp:Hid (Kept room (play ⟨hs,m,[],0⟩ (nums ps)).m (DidF m hs ps) L pu sl):=by have:=HR4.out.kept ej;rw [HE.out] at this;exact this
   have HFs:Hid (Fit (play ⟨hs,m,[],0⟩ (nums ps)) hn mn):=by have:=HFt.out j;rw [HE.out] at this;exact this
   obtain ⟨Mv,gh,hc1,Ov,a,n,cap,mb',D,E5⟩:=HE4.out
   rw [HE.out] at E5
   clear ej HE4 HR4 HE HFt HP HPK HPL
   generalize hS:play ⟨hs,m,[],0⟩ (nums ps)=s at *
   have HSS:Hid (play ⟨hs,m,[],0⟩ (nums ps)=s):=hS
   clear hS
   obtain ⟨va,vc,rfl, -⟩:=E5.bw.mem.mem
   obtain ⟨oa,oc,rfl⟩:=(owns_cells E5.bw.out).2.2
   have HE5:Hid (Ew 0 wr (W0.heap.size+3) g room (.slice va s.m.length vc) gh hc1 (.slice oa s.out.length oc) a n cap mb' mn' D s L pu sl):=E5
   have HMs:Hid (s.m.length=mn):=HFs.out.mem
   have HHs:Hid (s.hs.length=hn):=HFs.out.len
   obtain ⟨ol,hol⟩:∃ol:Nat,ol=s.out.length:=⟨_,rfl⟩
   obtain ⟨st,hst⟩:∃st:Int,st=s.steps:=⟨_,rfl⟩
   have HOS:Hid (ol=s.out.length∧st=s.steps):=⟨hol,hst⟩
   have HS:Hid ((fun W=>W.cell? ⟨g,0,none⟩=some (.slice va mn vc)∧W.cell? ⟨g,1,none⟩=some (.slice (some ⟨gh,0,none⟩) hn hc1)∧W.cell? ⟨g,2,none⟩=some (.slice oa ol oc)∧W.cell? ⟨g,3,none⟩=some (.int .i64 st)∧W.cell? ⟨g,4,none⟩=some (.int .i64 room)∧W.cell? ⟨g,5,none⟩=some (.slice a n cap)∧W.cell? ⟨g,6,none⟩=some (.int .i64 pu)∧W.cell? ⟨g,7,none⟩=some (.int .i64 sl)) wr):=by
    have x0:=E5.bw.c0
    have x1:=E5.bw.c1
    have x2:=E5.bw.c2
    have x3:=E5.bw.c3
    rw [HMs.out] at x0
    rw [HHs.out] at x1
    rw [←hol] at x2
    rw [←hst] at x3
    exact ⟨x0,x1,x2,x3,E5.c4,E5.c5,E5.c6,E5.c7⟩
   obtain ⟨GW,U1,U2⟩:=HGx.out _ HB4.out
   have HGW:Hid (Gr W0 wr):=GW
   have HU1:Hid (wr.heap[W0.heap.size+1]?=some (.cells #[.slice none 0 0,.slice none 0 0,.slice none 0 0,.int .i64 0] 32 (0,0))):=U1
   have HU2:Hid (wr.heap[W0.heap.size+1+1]?=some (.cells #[.int .i64 0,.slice none 0 0,.int .i64 0,.int .i64 0] 35 (0,0))):=U2
   have hgb:W0.heap.size+3≤g:=E5.bw.bg
   clear E5 hol hst GW U1 U2
   have HS1:Hid (∀(V:World),(∀i:Nat,V.cell? ⟨g,i,none⟩=wr.cell? ⟨g,i,none⟩)→(fun W=>W.cell? ⟨g,0,none⟩=some (.slice va mn vc)∧W.cell? ⟨g,1,none⟩=some (.slice (some ⟨gh,0,none⟩) hn hc1)∧W.cell? ⟨g,2,none⟩=some (.slice oa ol oc)∧W.cell? ⟨g,3,none⟩=some (.int .i64 st)∧W.cell? ⟨g,4,none⟩=some (.int .i64 room)∧W.cell? ⟨g,5,none⟩=some (.slice a n cap)∧W.cell? ⟨g,6,none⟩=some (.int .i64 pu)∧W.cell? ⟨g,7,none⟩=some (.int .i64 sl)) V):=fun V h=>by
    obtain ⟨y0,y1,y2,y3,y4,y5,y6,y7⟩:=HS.out
    exact ⟨(h 0).trans y0,(h 1).trans y1,(h 2).trans y2,(h 3).trans y3,(h 4).trans y4,(h 5).trans y5,(h 6).trans y6,(h 7).trans y7⟩
   go_wp2_with fail
   refine wp_region_held_drew (S:=fun W=>W.cell? ⟨g,0,none⟩=some (.slice va mn vc)∧W.cell? ⟨g,1,none⟩=some (.slice (some ⟨gh,0,none⟩) hn hc1)∧W.cell? ⟨g,2,none⟩=some (.slice oa ol oc)∧W.cell? ⟨g,3,none⟩=some (.int .i64 st)∧W.cell? ⟨g,4,none⟩=some (.int .i64 room)∧W.cell? ⟨g,5,none⟩=some (.slice a n cap)∧W.cell? ⟨g,6,none⟩=some (.int .i64 pu)∧W.cell? ⟨g,7,none⟩=some (.int .i64 sl)) (by kernel_rfl) ?_ (fun hHeld=>?_)
   ·exact HS1.out _ (fun i=>rfl)
   have HS0:Hid _:=hHeld
   clear hHeld
   refine wpAnyH_take (i:=0) (v:=.pointer (some ⟨g,0,none⟩)) rfl (by kernel_rfl) (by kernel_rfl) (by kernel_rfl) (fun _ _ _ h=>h) (Or.inl ⟨by rfl,fun W hW=>by obtain ⟨y0,y1,y2,y3,y4,y5,y6,y7⟩:=hW;go_simp⟩) HS0.out ?_
   simp only [List.getElem_toArray,List.getElem_cons_succ,List.getElem_cons_zero,Act.put,List.setIfInBounds_toArray,List.set_cons_zero,List.set_cons_succ]
   refine wpAnyH_take (i:=1) (v:=.pointer (some ⟨g,0,none⟩)) rfl (by kernel_rfl) (by kernel_rfl) (by kernel_rfl) (fun _ _ _ h=>h) (Or.inl ⟨by rfl,fun W hW=>by obtain ⟨y0,y1,y2,y3,y4,y5,y6,y7⟩:=hW;go_simp⟩) HS0.out ?_
   simp only [List.getElem_toArray,List.getElem_cons_succ,List.getElem_cons_zero,Act.put,List.setIfInBounds_toArray,List.set_cons_zero,List.set_cons_succ]
   refine wpAnyH_take (i:=2) (v:=.agg #[.slice va mn vc,.slice (some ⟨gh,0,none⟩) hn hc1,.slice oa ol oc,.int .i64 st]) rfl (by kernel_rfl) (by kernel_rfl) (by kernel_rfl) (fun _ _ _ h=>h) (Or.inl ⟨by rfl,fun W hW=>by obtain ⟨y0,y1,y2,y3,y4,y5,y6,y7⟩:=hW;go_simp⟩) HS0.out ?_
   simp only [List.getElem_toArray,List.getElem_cons_succ,List.getElem_cons_zero,Act.put,List.setIfInBounds_toArray,List.set_cons_zero,List.set_cons_succ]
   refine wpAnyH_take (i:=3) (v:=.pointer (some ⟨g,4,none⟩)) rfl (by kernel_rfl) (by kernel_rfl) (by kernel_rfl) (fun _ _ _ h=>h) (Or.inl ⟨by rfl,fun W hW=>by obtain ⟨y0,y1,y2,y3,y4,y5,y6,y7⟩:=hW;go_simp⟩) HS0.out ?_
   simp only [List.getElem_toArray,List.getElem_cons_succ,List.getElem_cons_zero,Act.put,List.setIfInBounds_toArray,List.set_cons_zero,List.set_cons_succ]
   refine wpAnyH_take (i:=4) (v:=.agg #[.int .i64 room,.slice a n cap,.int .i64 pu,.int .i64 sl]) rfl (by kernel_rfl) (by kernel_rfl) (by kernel_rfl) (fun _ _ _ h=>h) (Or.inl ⟨by rfl,fun W hW=>by obtain ⟨y0,y1,y2,y3,y4,y5,y6,y7⟩:=hW;go_simp⟩) HS0.out ?_
   simp only [List.getElem_toArray,List.getElem_cons_succ,List.getElem_cons_zero,Act.put,List.setIfInBounds_toArray,List.set_cons_zero,List.set_cons_succ]
   have HC1:Hid (∀i:Nat,(wr.drew.setRow (W0.heap.size+1) #[.slice va mn vc,.slice (some ⟨gh,0,none⟩) hn hc1,.slice oa ol oc,.int .i64 st]).cell? ⟨g,i,none⟩=wr.cell? ⟨g,i,none⟩):=fun i=>World.cell?_of_block (setRow_other _ _ _ _ (by show g≠W0.heap.size+1;omega))
   have HC2:Hid (∀i:Nat,((wr.drew.setRow (W0.heap.size+1) #[.slice va mn vc,.slice (some ⟨gh,0,none⟩) hn hc1,.slice oa ol oc,.int .i64 st]).setRow (W0.heap.size+1+1) #[.int .i64 room,.slice a n cap,.int .i64 pu,.int .i64 sl]).cell? ⟨g,i,none⟩=wr.cell? ⟨g,i,none⟩):=fun i=>(World.cell?_of_block (setRow_other _ _ _ _ (by show g≠W0.heap.size+1+1;omega))).trans (HC1.out i)
   have HV2:Hid ((wr.drew.setRow (W0.heap.size+1) #[.slice va mn vc,.slice (some ⟨gh,0,none⟩) hn hc1,.slice oa ol oc,.int .i64 st]).heap[W0.heap.size+1+1]?=some (.cells #[.int .i64 0,.slice none 0 0,.int .i64 0,.int .i64 0] 35 (0,0))):=(setRow_other _ _ _ _ (by omega)).trans HU2.out
   refine Hc.held_store_row (i:=5) (by kernel_rfl) rfl rfl 32 (.tmp 6) (.tmp 51) rfl (W0.heap.size+1) #[.slice va mn vc,.slice (some ⟨gh,0,none⟩) hn hc1,.slice oa ol oc,.int .i64 st] (by simp [Act.eval]) (by simp [Act.eval]) 32 #[.slice none 0 0,.slice none 0 0,.slice none 0 0,.int .i64 0] HU1.out iSh rfl (one_bd _ _ _ _ _ _ _ _ _ _) ?_ ?_
   ·exact HS1.out _ HC1.out
   refine Hc.held_store_row (i:=6) (by kernel_rfl) rfl rfl 35 (.tmp 7) (.tmp 53) rfl (W0.heap.size+1+1) #[.int .i64 room,.slice a n cap,.int .i64 pu,.int .i64 sl] (by simp [Act.eval,Act.put]) (by simp [Act.eval,Act.put]) 35 #[.int .i64 0,.slice none 0 0,.int .i64 0,.int .i64 0] HV2.out Kc.iCa rfl (one_ca _ _ _ _ _ _) ?_ ?_
   ·exact HS1.out _ HC2.out
   refine wpAnyH_take (i:=7) (v:=.int .i64 0) rfl (by kernel_rfl) (by kernel_rfl) (by kernel_rfl) (fun _ _ _ h=>h) (Or.inl ⟨by rfl,fun W hW=>by obtain ⟨y0,y1,y2,y3,y4,y5,y6,y7⟩:=hW;go_simp⟩) (HS1.out _ HC2.out) ?_
   simp only [List.getElem_toArray,List.getElem_cons_succ,List.getElem_cons_zero,Act.put,List.setIfInBounds_toArray,List.set_cons_zero,List.set_cons_succ]
   refine wpAnyH_done (by kernel_rfl) ?_ _
   go_wp2_with fail
   have W6:∀(k:Nat) (o:Array Value) (t:Nat) (f:Nat×Nat),t≠32→t≠35→wr.heap[k]?=some (.cells o t f)→((wr.drew.setRow (W0.heap.size+1) #[.slice va mn vc,.slice (some ⟨gh,0,none⟩) hn hc1,.slice oa ol oc,.int .i64 st]).setRow (W0.heap.size+1+1) #[.int .i64 room,.slice a n cap,.int .i64 pu,.int .i64 sl]).heap[k]?=wr.heap[k]?:=fun k o t f t1 t2 hk=>by
    rw [setRow_other _ _ _ _ (ne_of_types hk HU2.out t2),setRow_other _ _ _ _ (ne_of_types hk HU1.out t1)]
    rfl
   refine bodyPost_ret (v:=.tuple #[.agg #[.slice va mn vc,.slice (some ⟨gh,0,none⟩) hn hc1,.slice oa ol oc,.int .i64 st],.agg #[.int .i64 room,.slice a n cap,.int .i64 pu,.int .i64 sl],.int .i64 0]) (results_cct Tryz.results8 _ _ (W0.heap.size+1) (W0.heap.size+1+1) 32 35 #[.slice va mn vc,.slice (some ⟨gh,0,none⟩) hn hc1,.slice oa ol oc,.int .i64 st] #[.int .i64 room,.slice a n cap,.int .i64 pu,.int .i64 sl] (0,0) (0,0) _ _ _ rfl rfl rfl ((setRow_other _ _ _ _ (by omega)).trans (setRow_heap _ _ _ _ _ (0,0) HU1.out)) (setRow_heap _ _ _ _ _ (0,0) HV2.out) Tryz.underlying32 rfl iSh Tryz.underlying35 rfl Kc.iCa) rfl ?_
   have GF:Gr W0 ((wr.drew.setRow (W0.heap.size+1) #[.slice va mn vc,.slice (some ⟨gh,0,none⟩) hn hc1,.slice oa ol oc,.int .i64 st]).setRow (W0.heap.size+1+1) #[.int .i64 room,.slice a n cap,.int .i64 pu,.int .i64 sl]):=gr_setRow (gr_setRow HGW.out.drew (by omega) _) (by omega) _
   obtain ⟨rfl,rfl⟩:=HOS.out
   refine ⟨_,a,n,cap,pu,sl,L,rfl,?_,⟨?_,HE5.out.cap,?_⟩,GF⟩
   ·rw [HSS.out]
    refine Shn.w (shn_own (base:=W0.heap.size+3) ?_ HMs.out (HE5.out.bw.row.to fun k o f hk=>W6 k o _ f (by decide) (by decide) hk) HHs.out (owns_to HE5.out.bw.out fun k o f hk=>W6 k o _ f (by decide) (by decide) hk))
    have:=HE5.out.bw.mem.to fun k o f hk=>W6 k o _ f (by decide) (by decide) hk
    rw [HMs.out] at this
    exact this
   ·exact (HE5.out.bt.to fun k o t f _ ht hk=>W6 k o t f (by rcases ht with rfl|rfl<;>decide) (by rcases ht with rfl|rfl<;>decide) hk).bs
   ·rw [HSS.out]
    exact HKp.out
end Go.Proofs.YtchllaeembmioaaGreatDoor.En
namespace Go.Proofs.YtchllaeembmioaaGreatDoor.Bk
open Go.ChangeShapes Go.WideShapes Go.ChangeAt Go.RowKit Mm Hh Hc

variable {w : World} {n : Nat}
end Go.Proofs.YtchllaeembmioaaGreatDoor.Bk
namespace Go.Proofs.YtchllaeembmioaaGreatDoor.Ts
open Go.ChangeShapes Go.WideShapes Go.ChangeAt Go.RowKit Mm Hc Mi Bk
open Hh hiding Rn

variable {W : World} {ao : Option Addr}
theorem gOpers : Tryz.prog.globalNamed "ferrybridge/trans.operations" = some 2 := by kernel_rfl
theorem tOpers:(Tryz.prog.globals[2]?).map (·.type)=some 189:=by kernel_rfl
theorem lookOpersT:(List.range 28).map (Dw.look Tryz.prog 3 189 (Rows.laid_ferrybridge_trans_operations (H:=Unit)))=opersL.map fun n=>some (.int .i64 n):=by kernel_rfl
end Go.Proofs.YtchllaeembmioaaGreatDoor.Ts
