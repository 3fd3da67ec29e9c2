/-
  Et: texts of ours that lie in one file.
-/
import Derived.Test.YtchllaeembmioaaGreatDoorK25
import Derived.Test.YtchllaeembmioaaGreatDoorK30
set_option linter.unusedVariables false
set_option linter.unusedSimpArgs false
set_option maxHeartbeats 8000000
set_option maxRecDepth 100000
namespace Go.Proofs.YtchllaeembmioaaGreatDoor.En
open Go.ChangeShapes Go.WideShapes Go.ChangeAt Go.RowKit Mm Hh Hc Mc

theorem dq_row {w:World}{b:Nat}{d:Qv}{x:Wk}(D:Dq w b d x){z:Nat}{Z:Array Value}(hz:w.heap[z]?=some (.cells Z 84 (0,0)))(cs:Array Value):Dq (w.setRow z cs) b d x:=by
 have st:∀(k:Nat) (o:Array Value) (t:Nat) (f:Nat×Nat),t≠84→w.heap[k]?=some (.cells o t f)→(w.setRow z cs).heap[k]?=w.heap[k]?:=fun k o t f ht e=>setRow_other _ _ _ _ (ne_of_types e hz ht)
 exact ⟨D.hh,D.n,D.mem.to fun k o f e=>st k o _ f (by decide) e,owns_to D.out fun k o f e=>st k o _ f (by decide) e,owns_to D.sto fun k o f e=>st k o _ f (by decide) e⟩
theorem Ev.oth {lo mn:Nat}{w w':World}{base g:Nat}{room:Int}{s:Sh}{L:List Kc.Bv}{pu sl:Int}(E:Ev lo w base g room s L pu sl mn){z t0:Nat}{Z:Array Value}{f0:Nat×Nat}(hz:w.heap[z]?=some (.cells Z t0 f0))(ht0:t0≠66∧t0≠5∧t0≠51∧t0≠42∧t0≠45∧t0≠77∧t0≠166)(q:∀k,k≠z→w'.heap[k]?=w.heap[k]?):Ev lo w' base g room s L pu sl mn:=by
 obtain ⟨M,gh,hc,O,a,n,cap,mb,D,E⟩:=E
 obtain ⟨t1,t2,t3,t4,t5,t6,t7⟩:=ht0
 have st:∀(k:Nat) (o:Array Value) (t:Nat) (f:Nat×Nat),t0≠t→w.heap[k]?=some (.cells o t f)→w'.heap[k]?=w.heap[k]?:=fun k o t f ht e=>q k (ne_of_types e hz (Ne.symm ht))
 refine ⟨M,gh,hc,O,a,n,cap,mb,D,⟨E.bw.t1,E.bw.t2,E.bw.t3,E.bw.bg,(st _ _ _ _ t1 E.bw.blk).trans E.bw.blk,E.bw.mem.to fun k o f e=>st k o _ f t2 e,E.bw.bh,E.bw.row.to fun k o f e=>st k o _ f t3 e,owns_to E.bw.out fun k o f e=>st k o _ f t4 e⟩,E.bt.to fun k o t f hk ht e=>st k o t f (by rcases ht with rfl|rfl<;>assumption) e,E.cap,E.bm,owns_map_to E.map (q _ (fun e=>?_)),fun b hb=>?_⟩
 ·obtain ⟨es,clock,hb,_⟩:=E.map
  rw [e,hz] at hb
  cases hb
 ·obtain ⟨ca,cn,cc,h1,h2⟩:=E.code b hb
  exact ⟨ca,cn,cc,h1,h2.to fun k o f e=>st k o _ f t7 e⟩
section
variable {w : World} {base g : Nat} {room : Int} {s : Sh} {L L1 : List Kc.Bv} {pu sl p1 : Int} {mn m1 : Nat}
theorem stretch_gen (E:Ev 0 w base g room s L pu sl mn){k n c:Nat}(hcl:s.hs.length=c)(hk:k<c)(isn:Nat){x x1:Wk}(cd:List Mi.Mv)
  (BA:∀W:World,Gr w W→Calls Tryz.prog 52 #[.pointer (some ⟨g,0,none⟩),.int .u32 (at' s k).pc] W fun e w'=>∃ba bc ca cn cc,e=.returned (.tuple #[.agg #[.int .u32 (at' s k).pc,.slice ba isn bc],.slice ca cn cc])∧Ts.Ct w' ca cn cd∧Ev 0 w' base g room s L1 p1 sl m1∧Fm base W w')
  (BY:∀(W:World) (ba:Option Addr) (bc:Nat),Calls Tryz.prog 54 #[.agg #[.int .u32 (at' s k).pc,.slice ba isn bc]] W fun e w'=>e=.returned (.agg #[.int .u32 (at' s k).pc,.int .u32 ((at' s k).pc+4*(isn:Int))])∧Gr W w')
  (RN:∀(W:World) (ca:Option Addr) (cn cc:Nat) (ma:Option Addr) (mc:Nat),Below base w W→Mi.Cs W ca cn cd→Own W 0 (.slice ma s.m.length mc) s.m→Calls Tryz.prog 53 #[.slice ca cn cc,.agg (hA (at' s k)),.slice ma s.m.length mc,.agg #[.int .u32 (at' s k).pc,.int .u32 ((at' s k).pc+4*(isn:Int))],.int .i64 n] W fun e w'=>∃d,e=.returned (.tuple #[.agg (qA d),.bool true])∧(Dq w' 0 d x∧d.h.Ok)∧Gr W w')
  (WK:x.n=0→∀W:World,Below base w W→Ev 0 W base g room s L1 p1 sl m1→Calls Tryz.prog 28 #[.pointer (some ⟨g,0,none⟩),.agg #[.int .i64 k,.int .i64 1]] W fun e w'=>∃d,e=.returned (.agg (qA d))∧(Dq w' 0 d x1∧d.h.Ok)∧Gr W w'):
  Calls Tryz.prog 32 #[.pointer (some ⟨g,0,none⟩),.agg #[.int .i64 k,.int .i64 n]] w fun e w'=>∃d,e=.returned (.agg (qA d))∧(Dq w' 0 d (if x.n=0 then x1 else x)∧d.h.Ok)∧Ev 0 w' base g room s L1 p1 sl m1∧Fm base w w':=by
 have HBA:Hid (∀W:World,Gr w W→Calls Tryz.prog 52 #[.pointer (some ⟨g,0,none⟩),.int .u32 (at' s k).pc] W fun e w'=>∃ba bc ca cn cc,e=.returned (.tuple #[.agg #[.int .u32 (at' s k).pc,.slice ba isn bc],.slice ca cn cc])∧Ts.Ct w' ca cn cd∧Ev 0 w' base g room s L1 p1 sl m1∧Fm base W w'):=BA
 have HBy0:Hid (∀(W:World) (ba:Option Addr) (bc:Nat),Calls Tryz.prog 54 #[.agg #[.int .u32 (at' s k).pc,.slice ba isn bc]] W fun e w'=>e=.returned (.agg #[.int .u32 (at' s k).pc,.int .u32 ((at' s k).pc+4*(isn:Int))])∧Gr W w'):=BY
 have HRN:Hid (∀(W:World) (ca:Option Addr) (cn cc:Nat) (ma:Option Addr) (mc:Nat),Below base w W→Mi.Cs W ca cn cd→Own W 0 (.slice ma s.m.length mc) s.m→Calls Tryz.prog 53 #[.slice ca cn cc,.agg (hA (at' s k)),.slice ma s.m.length mc,.agg #[.int .u32 (at' s k).pc,.int .u32 ((at' s k).pc+4*(isn:Int))],.int .i64 n] W fun e w'=>∃d,e=.returned (.tuple #[.agg (qA d),.bool true])∧(Dq w' 0 d x∧d.h.Ok)∧Gr W w'):=RN
 have HWK:Hid (x.n=0→∀W:World,Below base w W→Ev 0 W base g room s L1 p1 sl m1→Calls Tryz.prog 28 #[.pointer (some ⟨g,0,none⟩),.agg #[.int .i64 k,.int .i64 1]] W fun e w'=>∃d,e=.returned (.agg (qA d))∧(Dq w' 0 d x1∧d.h.Ok)∧Gr W w'):=WK
 obtain ⟨M0,gh,hc,O0,a0,n0,cap0,mb0,D0,E0⟩:=E
 have hl:k<s.hs.length:=by rw [hcl];exact hk
 have eh:s.hs[k]?=some (at' s k):=by unfold at';rw [List.getElem?_eq_getElem hl];simp [List.getD,hl]
 have okh:(at' s k).Ok:=E0.bw.row.ok _ (List.mem_of_getElem? eh)
 have RG:Hid (w.rangeAt gh (k*37) (hL (at' s k))):=E0.bw.row.range eh
 have K1:Hid (w.cell? ⟨g,1,none⟩=some (.slice (some ⟨gh,0,none⟩) c hc)):=by have:=E0.bw.c1;rw [hcl] at this;exact this
 have HLL:Hid ((hL (at' s k)).length=37):=hL_len okh
 have HSZ:Hid ((hL (at' s k)).toArray.size=37):=by unfold Hid;simp [HLL.out]
 have HHO:Hid ((hL (at' s k)).toArray.all (·.oneCell')=true):=one_hA (at' s k)
 have HPC:Hid ((hL (at' s k))[32]?=some (.int .u32 (at' s k).pc)):=hL_fld okh 0
 have HHA:Hid (hA (at' s k)=(hL (at' s k)).toArray):=rfl
 have hgl:g<w.heap.size:=E0.bw.lt
 have hghl:gh<w.heap.size:=by obtain ⟨_,e⟩:=E0.bw.row.row;exact (Array.getElem?_eq_some_iff.1 e).1
 have hbl:base≤w.heap.size:=E0.base_le
 have HS1:Hid (∀W:World,Gr w W→W.heap[w.heap.size]?=some (.cells #[.int .i64 k,.int .i64 n] 53 (0,0))→(fun W=>W.cell? ⟨g,1,none⟩=some (.slice (some ⟨gh,0,none⟩) c hc)∧W.cell? ⟨w.heap.size,0,none⟩=some (.int .i64 k)∧W.rangeAt gh (k*37) (hL (at' s k))) W):=fun W G e=>
  ⟨(G.cell _ (by exact hgl)).trans K1.out,cell_of_row _ _ _ _ _ _ e,fun j v hv=>(G.cell _ (by exact hghl)).trans (RG.out j v hv)⟩
 clear BA BY RN WK E0 hcl eh okh hl K1 RG
 generalize (at' s k).pc=pc at *
 generalize at' s k=h at *
 go_enter Tryz.func32,Tryz.ntmps32
 go_wp2_with fail
 refine wp_region_held_drew (S:=fun W=>W.cell? ⟨g,1,none⟩=some (.slice (some ⟨gh,0,none⟩) c hc)∧W.cell? ⟨w.heap.size,0,none⟩=some (.int .i64 k)∧W.rangeAt gh (k*37) (hL h)) (by kernel_rfl) ?_ (fun hHeld=>?_)
 ·exact HS1.out _ (((Gr.refl _).alloc _).alloc _).drew (Kc.up_h (Gr.refl _).drew (heap_alloc2_old w _ _))
 have HS0:Hid _:=hHeld
 clear hHeld
 refine wpAnyH_take (i:=0) (v:=.pointer (some ⟨g,0,none⟩)) rfl (by kernel_rfl) (by kernel_rfl) (by kernel_rfl) (fun _ _ _ h=>h) (Or.inl ⟨by rfl,fun W hW=>by obtain ⟨y0,y1,y2⟩:=hW;go_simp⟩) HS0.out ?_
 simp only [List.getElem_toArray,List.getElem_cons_succ,List.getElem_cons_zero,Act.put,List.setIfInBounds_toArray,List.set_cons_zero,List.set_cons_succ]
 refine wpAnyH_take (i:=1) (v:=.pointer (some ⟨g,0,none⟩)) rfl (by kernel_rfl) (by kernel_rfl) (by kernel_rfl) (fun _ _ _ h=>h) (Or.inl ⟨by rfl,fun W hW=>by obtain ⟨y0,y1,y2⟩:=hW;go_simp⟩) HS0.out ?_
 simp only [List.getElem_toArray,List.getElem_cons_succ,List.getElem_cons_zero,Act.put,List.setIfInBounds_toArray,List.set_cons_zero,List.set_cons_succ]
 refine wpAnyH_take (i:=2) (v:=.pointer (some ⟨g,0,none⟩)) rfl (by kernel_rfl) (by kernel_rfl) (by kernel_rfl) (fun _ _ _ h=>h) (Or.inl ⟨by rfl,fun W hW=>by obtain ⟨y0,y1,y2⟩:=hW;go_simp⟩) HS0.out ?_
 simp only [List.getElem_toArray,List.getElem_cons_succ,List.getElem_cons_zero,Act.put,List.setIfInBounds_toArray,List.set_cons_zero,List.set_cons_succ]
 refine wpAnyH_take (i:=3) (v:=.pointer (some ⟨g,0,none⟩)) rfl (by kernel_rfl) (by kernel_rfl) (by kernel_rfl) (fun _ _ _ h=>h) (Or.inl ⟨by rfl,fun W hW=>by obtain ⟨y0,y1,y2⟩:=hW;go_simp⟩) HS0.out ?_
 simp only [List.getElem_toArray,List.getElem_cons_succ,List.getElem_cons_zero,Act.put,List.setIfInBounds_toArray,List.set_cons_zero,List.set_cons_succ]
 refine wpAnyH_take (i:=4) (v:=.pointer (some ⟨g,0,none⟩)) rfl (by kernel_rfl) (by kernel_rfl) (by kernel_rfl) (fun _ _ _ h=>h) (Or.inl ⟨by rfl,fun W hW=>by obtain ⟨y0,y1,y2⟩:=hW;go_simp⟩) HS0.out ?_
 simp only [List.getElem_toArray,List.getElem_cons_succ,List.getElem_cons_zero,Act.put,List.setIfInBounds_toArray,List.set_cons_zero,List.set_cons_succ]
 refine wpAnyH_take (i:=5) (v:=.pointer (some ⟨g,1,none⟩)) rfl (by kernel_rfl) (by kernel_rfl) (by kernel_rfl) (fun _ _ _ h=>h) (Or.inl ⟨by rfl,fun W hW=>by obtain ⟨y0,y1,y2⟩:=hW;go_simp⟩) HS0.out ?_
 simp only [List.getElem_toArray,List.getElem_cons_succ,List.getElem_cons_zero,Act.put,List.setIfInBounds_toArray,List.set_cons_zero,List.set_cons_succ]
 refine wpAnyH_take (i:=6) (v:=.slice (some ⟨gh,0,none⟩) c hc) rfl (by kernel_rfl) (by kernel_rfl) (by kernel_rfl) (fun _ _ _ h=>h) (Or.inl ⟨by rfl,fun W hW=>by obtain ⟨y0,y1,y2⟩:=hW;go_simp⟩) HS0.out ?_
 simp only [List.getElem_toArray,List.getElem_cons_succ,List.getElem_cons_zero,Act.put,List.setIfInBounds_toArray,List.set_cons_zero,List.set_cons_succ]
 refine wpAnyH_take (i:=7) (v:=.pointer (some ⟨w.heap.size,0,none⟩)) rfl (by kernel_rfl) (by kernel_rfl) (by kernel_rfl) (fun _ _ _ h=>h) (Or.inl ⟨by rfl,fun W hW=>by obtain ⟨y0,y1,y2⟩:=hW;go_simp⟩) HS0.out ?_
 simp only [List.getElem_toArray,List.getElem_cons_succ,List.getElem_cons_zero,Act.put,List.setIfInBounds_toArray,List.set_cons_zero,List.set_cons_succ]
 refine wpAnyH_take (i:=8) (v:=.int .i64 k) rfl (by kernel_rfl) (by kernel_rfl) (by kernel_rfl) (fun _ _ _ h=>h) (Or.inl ⟨by rfl,fun W hW=>by obtain ⟨y0,y1,y2⟩:=hW;go_simp⟩) HS0.out ?_
 simp only [List.getElem_toArray,List.getElem_cons_succ,List.getElem_cons_zero,Act.put,List.setIfInBounds_toArray,List.set_cons_zero,List.set_cons_succ]
 refine wpAnyH_take (i:=9) (v:=.pointer (some ⟨gh,k*37,none⟩)) rfl (by kernel_rfl) (by kernel_rfl) (by kernel_rfl) (fun _ _ _ h=>h) (Or.inl ⟨by rfl,fun W hW=>by obtain ⟨y0,y1,y2⟩:=hW;go_simp⟩) HS0.out ?_
 simp only [List.getElem_toArray,List.getElem_cons_succ,List.getElem_cons_zero,Act.put,List.setIfInBounds_toArray,List.set_cons_zero,List.set_cons_succ]
 refine wpAnyH_take (i:=10) (v:=.agg (hL h).toArray) rfl (by kernel_rfl) (by kernel_rfl) (by kernel_rfl) (fun _ _ _ h=>h) (yieldsIf_load_mid (by rfl) 51 (.tmp 19) rfl gh (k*37) (by simp [Act.eval]) (hL h) _ (fun W hW=>hW.2.2) Tryz.underlying51 rfl (by rw [HLL.out];exact iH)) HS0.out ?_
 simp only [List.getElem_toArray,List.getElem_cons_succ,List.getElem_cons_zero,Act.put,List.setIfInBounds_toArray,List.set_cons_zero,List.set_cons_succ]
 refine wpAnyH_ready (rs:=[11]) (by kernel_rfl) (by simp) ?_
 refine AllReadyH.cons rfl (fun K hK=>?_) AllReadyH.nil
 go_simp
 refine hK.out _ _ ?_ (fun _=>?_)
 ·exact HS1.out _ (heap3_gr _ _ _ _) (heap3_old _ _ _ _ _)
 clear hK K HS0
 refine held_store_row (i:=12) (by kernel_rfl) rfl rfl 51 (.tmp 5) (.tmp 20) rfl (w.heap.size+2) (hL h).toArray (by simp [Act.eval]) (by simp [Act.eval]) 51 _ (heap3_new _ _ _ _) (by rw [HSZ.out];exact iH) (by rw [HSZ.out];rfl) HHO.out ?_ ?_
 ·refine HS1.out _ (gr_setRow (heap3_gr _ _ _ _) (by omega) _) ?_
  rw [setRow_other _ _ _ _ (by omega)]
  exact heap3_old _ _ _ _ _
 refine wpAnyH_done (by kernel_rfl) ?_ _
 refine at_world (fun W=>W.heap[w.heap.size]?=some (.cells #[.int .i64 k,.int .i64 n] 53 (0,0))∧(∃Z:Array Value,Z.size=41∧W.heap[w.heap.size+1]?=some (.cells Z 84 (0,0)))∧W.heap[w.heap.size+2]?=some (.cells (hL h).toArray 51 (0,0))∧Gr w W) ?_ ?_
 ·refine ⟨?_,⟨qA ⟨h0,nilS,nilS,0,nilS⟩,qA_size (d:=⟨h0,nilS,nilS,0,nilS⟩) h0_ok,?_⟩,setRow_heap _ _ _ _ _ (0,0) (heap3_new _ _ _ _),gr_setRow (heap3_gr _ _ _ _) (by omega) _⟩
  ·rw [setRow_other _ _ _ _ (by omega)];exact heap3_old _ _ _ _ _
  ·rw [setRow_other _ _ _ _ (by omega)];exact heap3_mid _ _ _ _ _
 rintro W ⟨KP,⟨Z,hZ,KD⟩,KH,GW⟩
 have HP1:Hid (W.heap[w.heap.size]?=some (.cells #[.int .i64 k,.int .i64 n] 53 (0,0))):=KP
 have HD1:Hid (W.heap[w.heap.size+1]?=some (.cells Z 84 (0,0))):=KD
 have HH1:Hid (W.heap[w.heap.size+2]?=some (.cells (hL h).toArray 51 (0,0))):=KH
 have HGW:Hid (Gr w W):=GW
 have HZ:Hid (Z.size=41):=hZ
 obtain ⟨hb,hhb⟩:∃hb:Nat,hb=w.heap.size+2:=⟨_,rfl⟩
 rw [←hhb] at HH1 ⊢
 have kpc:W.cell? ⟨hb,32,none⟩=some (.int .u32 pc):=(cell_of_row _ _ _ _ _ _ HH1.out).trans (by rw [List.getElem?_toArray];exact HPC.out)
 clear KP KD KH GW hZ HS1 hhb
 go_wp2_with fail
 refine (HBA.out _ HGW.out).mono ?_
 rintro e w3 ⟨ba,bc,ca,cn,cc,rfl,C3,E3,F3⟩
 have HC3:Hid (Ts.Ct w3 ca cn cd):=C3
 have HE3:Hid (Ev 0 w3 base g room s L1 p1 sl m1):=E3
 have HF3:Hid (Fm base w w3):=(Fm.ofGr HGW.out hbl).trans F3
 have HP3:Hid (w3.heap[w.heap.size]?=some (.cells #[.int .i64 k,.int .i64 n] 53 (0,0))):=F3.row HP1.out (by decide)
 have HD3:Hid (w3.heap[w.heap.size+1]?=some (.cells Z 84 (0,0))):=F3.row HD1.out (by decide)
 have HH3:Hid (w3.heap[hb]?=some (.cells (hL h).toArray 51 (0,0))):=F3.row HH1.out (by decide)
 clear C3 E3 F3 HBA HP1 HD1 HH1 HGW kpc
 clear W
 go_wp2_with fail
 obtain ⟨M,gh1,hc1,O1,a1,n1,cap1,mb1,D1,E4⟩:=HE3.out
 obtain ⟨ma,mc,rfl, -⟩:=E4.bw.mem.mem
 have HE4:Hid (Ew 0 w3 base g room (.slice ma s.m.length mc) gh1 hc1 O1 a1 n1 cap1 mb1 m1 D1 s L1 p1 sl):=E4
 clear E4
 generalize hw4:w3.alloc (.cells #[.int .u32 pc,.slice ba isn bc] 45)=w4 at *
 have HG4:Hid (Gr w3 w4):=by rw [←hw4];exact (Gr.refl w3).alloc _
 have HB4:Hid (w4.heap[w3.heap.size]?=some (.cells #[.int .u32 pc,.slice ba isn bc] 45 (0,0))):=by rw [←hw4];exact heap_alloc_new w3 _
 clear hw4
 have hlt3:w.heap.size+1<w3.heap.size:=(Array.getElem?_eq_some_iff.1 HD3.out).1
 have HS:Hid (∀W:World,Gr w4 W→(fun W=>W.rangeAt hb 0 (hL h)∧W.cell? ⟨g,0,none⟩=some (.slice ma s.m.length mc)∧W.cell? ⟨w3.heap.size,0,none⟩=some (.int .u32 pc)∧W.cell? ⟨w3.heap.size,1,none⟩=some (.slice ba isn bc)∧W.cell? ⟨w.heap.size,1,none⟩=some (.int .i64 n)) W):=fun W G=>by
  have GA:=HG4.out.trans G
  have X:=HE4.out.of GA
  have e1:=Kc.up_h GA HH3.out
  have e2:=Kc.up_h G HB4.out
  have e3:=Kc.up_h GA HP3.out
  refine ⟨fun j v hv=>?_,X.bw.c0,cell_of_row _ _ _ _ _ _ e2,cell_of_row _ _ _ _ _ _ e2,cell_of_row _ _ _ _ _ _ e3⟩
  rw [Nat.zero_add,cell_of_row _ _ _ _ _ _ e1,List.getElem?_toArray]
  exact hv
 have HBy:Hid (∀W:World,Calls Tryz.prog 54 #[.agg #[.int .u32 pc,.slice ba isn bc]] W fun e w'=>e=.returned (.agg #[.int .u32 pc,.int .u32 (pc+4*(isn:Int))])∧Gr W w'):=fun W=>HBy0.out W ba bc
 have HRun:Hid (∀W:World,Gr w4 W→Calls Tryz.prog 53 #[.slice ca cn cc,.agg (hL h).toArray,.slice ma s.m.length mc,.agg #[.int .u32 pc,.int .u32 (pc+4*(isn:Int))],.int .i64 n] W fun e w'=>∃d,e=.returned (.tuple #[.agg (qA d),.bool true])∧(Dq w' 0 d x∧d.h.Ok)∧Gr W w'):=fun W G=>by
  have GA:=HG4.out.trans G
  have:=HRN.out W ca cn cc ma mc (HF3.out.below.trans (Below.mono GA (Nat.le_trans hbl (by omega)))) (HC3.out.of GA).cs (own_gr HE4.out.bw.mem GA)
  rw [HHA.out] at this
  exact this
 clear HBy0 HRN HC3
 generalize s.m.length=mln at *
 generalize pc+4*(isn:Int)=pt at *
 apply Kc.share
 ·intro CONT
  refine wp_region_held_drew (S:=fun W=>W.rangeAt hb 0 (hL h)∧W.cell? ⟨g,0,none⟩=some (.slice ma mln mc)∧W.cell? ⟨w3.heap.size,0,none⟩=some (.int .u32 pc)∧W.cell? ⟨w3.heap.size,1,none⟩=some (.slice ba isn bc)∧W.cell? ⟨w.heap.size,1,none⟩=some (.int .i64 n)) (by kernel_rfl) ?_ (fun hHeld=>?_)
  ·exact HS.out _ (Gr.refl _).drew
  have HS0:Hid _:=hHeld
  clear hHeld
  refine wpAnyH_take (i:=0) (v:=.slice ca cn cc) rfl (by kernel_rfl) (by kernel_rfl) (by kernel_rfl) (fun _ _ _ h=>h) (Or.inl ⟨by rfl,fun W hW=>by obtain ⟨y0,y1,y2,y3,y4⟩:=hW;go_simp⟩) HS0.out ?_
  simp only [List.getElem_toArray,List.getElem_cons_succ,List.getElem_cons_zero,Act.put,List.setIfInBounds_toArray,List.set_cons_zero,List.set_cons_succ]
  refine wpAnyH_take (i:=1) (v:=.agg (hL h).toArray) rfl (by kernel_rfl) (by kernel_rfl) (by kernel_rfl) (fun _ _ _ h=>h) (yieldsIf_load_mid (by rfl) 51 (.tmp 5) rfl hb 0 (by simp [Act.eval]) (hL h) _ (fun W hW=>hW.1) Tryz.underlying51 rfl (by rw [HLL.out];exact iH)) HS0.out ?_
  simp only [List.getElem_toArray,List.getElem_cons_succ,List.getElem_cons_zero,Act.put,List.setIfInBounds_toArray,List.set_cons_zero,List.set_cons_succ]
  refine wpAnyH_take (i:=2) (v:=.pointer (some ⟨g,0,none⟩)) rfl (by kernel_rfl) (by kernel_rfl) (by kernel_rfl) (fun _ _ _ h=>h) (Or.inl ⟨by rfl,fun W hW=>by obtain ⟨y0,y1,y2,y3,y4⟩:=hW;go_simp⟩) HS0.out ?_
  simp only [List.getElem_toArray,List.getElem_cons_succ,List.getElem_cons_zero,Act.put,List.setIfInBounds_toArray,List.set_cons_zero,List.set_cons_succ]
  refine wpAnyH_take (i:=3) (v:=.pointer (some ⟨g,0,none⟩)) rfl (by kernel_rfl) (by kernel_rfl) (by kernel_rfl) (fun _ _ _ h=>h) (Or.inl ⟨by rfl,fun W hW=>by obtain ⟨y0,y1,y2,y3,y4⟩:=hW;go_simp⟩) HS0.out ?_
  simp only [List.getElem_toArray,List.getElem_cons_succ,List.getElem_cons_zero,Act.put,List.setIfInBounds_toArray,List.set_cons_zero,List.set_cons_succ]
  refine wpAnyH_take (i:=4) (v:=.pointer (some ⟨g,0,none⟩)) rfl (by kernel_rfl) (by kernel_rfl) (by kernel_rfl) (fun _ _ _ h=>h) (Or.inl ⟨by rfl,fun W hW=>by obtain ⟨y0,y1,y2,y3,y4⟩:=hW;go_simp⟩) HS0.out ?_
  simp only [List.getElem_toArray,List.getElem_cons_succ,List.getElem_cons_zero,Act.put,List.setIfInBounds_toArray,List.set_cons_zero,List.set_cons_succ]
  refine wpAnyH_take (i:=5) (v:=.pointer (some ⟨g,0,none⟩)) rfl (by kernel_rfl) (by kernel_rfl) (by kernel_rfl) (fun _ _ _ h=>h) (Or.inl ⟨by rfl,fun W hW=>by obtain ⟨y0,y1,y2,y3,y4⟩:=hW;go_simp⟩) HS0.out ?_
  simp only [List.getElem_toArray,List.getElem_cons_succ,List.getElem_cons_zero,Act.put,List.setIfInBounds_toArray,List.set_cons_zero,List.set_cons_succ]
  refine wpAnyH_take (i:=6) (v:=.pointer (some ⟨g,0,none⟩)) rfl (by kernel_rfl) (by kernel_rfl) (by kernel_rfl) (fun _ _ _ h=>h) (Or.inl ⟨by rfl,fun W hW=>by obtain ⟨y0,y1,y2,y3,y4⟩:=hW;go_simp⟩) HS0.out ?_
  simp only [List.getElem_toArray,List.getElem_cons_succ,List.getElem_cons_zero,Act.put,List.setIfInBounds_toArray,List.set_cons_zero,List.set_cons_succ]
  refine wpAnyH_take (i:=7) (v:=.pointer (some ⟨g,0,none⟩)) rfl (by kernel_rfl) (by kernel_rfl) (by kernel_rfl) (fun _ _ _ h=>h) (Or.inl ⟨by rfl,fun W hW=>by obtain ⟨y0,y1,y2,y3,y4⟩:=hW;go_simp⟩) HS0.out ?_
  simp only [List.getElem_toArray,List.getElem_cons_succ,List.getElem_cons_zero,Act.put,List.setIfInBounds_toArray,List.set_cons_zero,List.set_cons_succ]
  refine wpAnyH_take (i:=8) (v:=.slice ma mln mc) rfl (by kernel_rfl) (by kernel_rfl) (by kernel_rfl) (fun _ _ _ h=>h) (Or.inl ⟨by rfl,fun W hW=>by obtain ⟨y0,y1,y2,y3,y4⟩:=hW;go_simp⟩) HS0.out ?_
  simp only [List.getElem_toArray,List.getElem_cons_succ,List.getElem_cons_zero,Act.put,List.setIfInBounds_toArray,List.set_cons_zero,List.set_cons_succ]
  refine wpAnyH_take (i:=9) (v:=.agg #[.int .u32 pc,.slice ba isn bc]) rfl (by kernel_rfl) (by kernel_rfl) (by kernel_rfl) (fun _ _ _ h=>h) (Or.inl ⟨by rfl,fun W hW=>by obtain ⟨y0,y1,y2,y3,y4⟩:=hW;go_simp⟩) HS0.out ?_
  simp only [List.getElem_toArray,List.getElem_cons_succ,List.getElem_cons_zero,Act.put,List.setIfInBounds_toArray,List.set_cons_zero,List.set_cons_succ]
  refine wpAnyH_take (i:=11) (v:=.pointer (some ⟨w.heap.size,1,none⟩)) rfl (by kernel_rfl) (by kernel_rfl) (by kernel_rfl) (fun _ _ _ h=>h) (Or.inl ⟨by rfl,fun W hW=>by obtain ⟨y0,y1,y2,y3,y4⟩:=hW;go_simp⟩) HS0.out ?_
  simp only [List.getElem_toArray,List.getElem_cons_succ,List.getElem_cons_zero,Act.put,List.setIfInBounds_toArray,List.set_cons_zero,List.set_cons_succ]
  refine wpAnyH_take (i:=12) (v:=.int .i64 n) rfl (by kernel_rfl) (by kernel_rfl) (by kernel_rfl) (fun _ _ _ h=>h) (Or.inl ⟨by rfl,fun W hW=>by obtain ⟨y0,y1,y2,y3,y4⟩:=hW;go_simp⟩) HS0.out ?_
  simp only [List.getElem_toArray,List.getElem_cons_succ,List.getElem_cons_zero,Act.put,List.setIfInBounds_toArray,List.set_cons_zero,List.set_cons_succ]
  refine wpAnyH_ready (rs:=[10,17]) (by kernel_rfl) (by simp) ?_
  refine AllReadyH.cons rfl (fun K hK=>?cf) (AllReadyH.cons rfl (fun K hK=>?af) AllReadyH.nil)
  case cf=>
   go_simp
   refine (HBy.out _).mono ?_
   rintro e wb ⟨rfl,Gb⟩
   have HGb:Hid (Gr w4 wb):=Gr.trans ((Gr.refl _).drew) Gb
   clear Gb
   refine hK.out _ _ (HS.out _ HGb.out) (fun hx=>?_)
   clear hK K hx
   refine wpAnyH_ready (rs:=[13,17]) (by kernel_rfl) (by simp) ?_
   refine AllReadyH.cons rfl (fun K hK=>?cf2) (AllReadyH.cons rfl (fun K hK=>?af2) AllReadyH.nil)
   case cf2=>
    go_simp
    refine (HRun.out _ (HGb.out)).mono ?_
    rintro e wd ⟨d,rfl,DD,Gd⟩
    have HDd:Hid (Dq wd 0 d x∧d.h.Ok):=DD
    have HGd:Hid (Gr w4 wd):=Gr.trans (HGb.out) Gd
    have HSD:Hid ((qA d).size=41):=qA_size DD.2
    have HOD:Hid ((qA d).all (·.oneCell')=true):=one_qA DD.1.mem.cells.2 (owns_cells DD.1.out).2.1 (owns_cells DD.1.sto).2.1
    clear DD
    refine hK.out _ _ (HS.out _ HGd.out) (fun hx=>?_)
    clear hK K hx
    clear Gd
    have HS1:Hid _:=HS.out _ HGd.out
    refine wpAnyH_take (i:=14) (v:=.tuple #[.agg (qA d),.bool true]) rfl (by kernel_rfl) (by kernel_rfl) (by kernel_rfl) (fun _ _ _ h=>h) (Or.inl ⟨by rfl,fun W hW=>by obtain ⟨y0,y1,y2,y3,y4⟩:=hW;go_simp⟩) HS1.out ?_
    simp only [List.getElem_toArray,List.getElem_cons_succ,List.getElem_cons_zero,Act.put,List.setIfInBounds_toArray,List.set_cons_zero,List.set_cons_succ]
    refine wpAnyH_take (i:=15) (v:=.agg (qA d)) rfl (by kernel_rfl) (by kernel_rfl) (by kernel_rfl) (fun _ _ _ h=>h) (Or.inl ⟨by rfl,fun W hW=>by obtain ⟨y0,y1,y2,y3,y4⟩:=hW;go_simp⟩) HS1.out ?_
    simp only [List.getElem_toArray,List.getElem_cons_succ,List.getElem_cons_zero,Act.put,List.setIfInBounds_toArray,List.set_cons_zero,List.set_cons_succ]
    refine wpAnyH_take (i:=16) (v:=.bool true) rfl (by kernel_rfl) (by kernel_rfl) (by kernel_rfl) (fun _ _ _ h=>h) (Or.inl ⟨by rfl,fun W hW=>by obtain ⟨y0,y1,y2,y3,y4⟩:=hW;go_simp⟩) HS1.out ?_
    simp only [List.getElem_toArray,List.getElem_cons_succ,List.getElem_cons_zero,Act.put,List.setIfInBounds_toArray,List.set_cons_zero,List.set_cons_succ]
    refine wpAnyH_ready (rs:=[17]) (by kernel_rfl) (by simp) ?_
    refine AllReadyH.cons rfl (fun K hK=>?_) AllReadyH.nil
    go_simp
    refine hK.out _ _ (HS.out _ (HGd.out.alloc _)) (fun hx=>?_)
    clear hK K hx
    refine held_store_row (i:=18) (by kernel_rfl) rfl rfl 84 (.tmp 8) (.tmp 43) rfl wd.heap.size (qA d) (by simp [Act.eval]) (by simp [Act.eval]) 84 _ (heap_alloc_new wd _) (by rw [HSD.out];exact iQ) (by rw [HSD.out];rfl) HOD.out ?_ ?_
    ·exact HS.out _ (gr_setRow (HGd.out.alloc _) HGd.out.size _)
    refine wpAnyH_take (i:=19) (v:=.bool true) rfl (by kernel_rfl) (by kernel_rfl) (by kernel_rfl) (fun _ _ _ h=>h) (Or.inl ⟨by rfl,fun W hW=>by obtain ⟨y0,y1,y2,y3,y4⟩:=hW;go_simp⟩) (HS.out _ (gr_setRow (HGd.out.alloc _) HGd.out.size _)) ?_
    simp only [List.getElem_toArray,List.getElem_cons_succ,List.getElem_cons_zero,Act.put,List.setIfInBounds_toArray,List.set_cons_zero,List.set_cons_succ]
    refine wpAnyH_done (by kernel_rfl) ?_ _
    refine at_world (fun W=>W.heap[wd.heap.size]?=some (.cells (qA d) 84 (0,0))∧(Dq W 0 d x∧d.h.Ok)∧Gr w4 W) ⟨setRow_heap _ _ _ _ _ (0,0) (heap_alloc_new wd _),⟨HDd.out.1.gr (gr_setRow ((Gr.refl _).alloc _) (Nat.le_refl _) _),HDd.out.2⟩,gr_setRow (HGd.out.alloc _) HGd.out.size _⟩ ?_
    obtain ⟨o,ho⟩:∃o:Nat,o=wd.heap.size:=⟨_,rfl⟩
    rw [←ho]
    clear ho HDd HS1 HGd HSD HOD HGb 
    clear wd
    clear wb
    revert o d
    exact CONT.out
   case af2=>
    go_simp
    refine hK.out _ _ (HS.out _ (HGb.out.alloc _)) (fun hx=>?_)
    clear hK K hx
    refine wpAnyH_ready (rs:=[13]) (by kernel_rfl) (by simp) ?_
    refine AllReadyH.cons rfl (fun K hK=>?_) AllReadyH.nil
    go_simp
    refine (HRun.out _ (HGb.out.alloc _)).mono ?_
    rintro e wd ⟨d,rfl,DD,Gd⟩
    have HDd:Hid (Dq wd 0 d x∧d.h.Ok):=DD
    have HGd:Hid (Gr w4 wd):=Gr.trans (HGb.out.alloc _) Gd
    have HSD:Hid ((qA d).size=41):=qA_size DD.2
    have HOD:Hid ((qA d).all (·.oneCell')=true):=one_qA DD.1.mem.cells.2 (owns_cells DD.1.out).2.1 (owns_cells DD.1.sto).2.1
    clear DD
    have HNw:Hid (wd.heap[wb.heap.size]?=some (.cells _ 84 (0,0))):=Kc.up_h Gd (heap_alloc_new wb _)
    clear Gd
    refine hK.out _ _ (HS.out _ HGd.out) (fun hx=>?_)
    clear hK K hx
    have HS1:Hid _:=HS.out _ HGd.out
    refine wpAnyH_take (i:=14) (v:=.tuple #[.agg (qA d),.bool true]) rfl (by kernel_rfl) (by kernel_rfl) (by kernel_rfl) (fun _ _ _ h=>h) (Or.inl ⟨by rfl,fun W hW=>by obtain ⟨y0,y1,y2,y3,y4⟩:=hW;go_simp⟩) HS1.out ?_
    simp only [List.getElem_toArray,List.getElem_cons_succ,List.getElem_cons_zero,Act.put,List.setIfInBounds_toArray,List.set_cons_zero,List.set_cons_succ]
    refine wpAnyH_take (i:=15) (v:=.agg (qA d)) rfl (by kernel_rfl) (by kernel_rfl) (by kernel_rfl) (fun _ _ _ h=>h) (Or.inl ⟨by rfl,fun W hW=>by obtain ⟨y0,y1,y2,y3,y4⟩:=hW;go_simp⟩) HS1.out ?_
    simp only [List.getElem_toArray,List.getElem_cons_succ,List.getElem_cons_zero,Act.put,List.setIfInBounds_toArray,List.set_cons_zero,List.set_cons_succ]
    refine wpAnyH_take (i:=16) (v:=.bool true) rfl (by kernel_rfl) (by kernel_rfl) (by kernel_rfl) (fun _ _ _ h=>h) (Or.inl ⟨by rfl,fun W hW=>by obtain ⟨y0,y1,y2,y3,y4⟩:=hW;go_simp⟩) HS1.out ?_
    simp only [List.getElem_toArray,List.getElem_cons_succ,List.getElem_cons_zero,Act.put,List.setIfInBounds_toArray,List.set_cons_zero,List.set_cons_succ]
    refine held_store_row (i:=18) (by kernel_rfl) rfl rfl 84 (.tmp 8) (.tmp 43) rfl wb.heap.size (qA d) (by simp [Act.eval]) (by simp [Act.eval]) 84 _ HNw.out (by rw [HSD.out];exact iQ) (by rw [HSD.out];rfl) HOD.out ?_ ?_
    ·exact HS.out _ (gr_setRow HGd.out HGb.out.size _)
    refine wpAnyH_take (i:=19) (v:=.bool true) rfl (by kernel_rfl) (by kernel_rfl) (by kernel_rfl) (fun _ _ _ h=>h) (Or.inl ⟨by rfl,fun W hW=>by obtain ⟨y0,y1,y2,y3,y4⟩:=hW;go_simp⟩) (HS.out _ (gr_setRow HGd.out HGb.out.size _)) ?_
    simp only [List.getElem_toArray,List.getElem_cons_succ,List.getElem_cons_zero,Act.put,List.setIfInBounds_toArray,List.set_cons_zero,List.set_cons_succ]
    refine wpAnyH_done (by kernel_rfl) ?_ _
    refine at_world (fun W=>W.heap[wb.heap.size]?=some (.cells (qA d) 84 (0,0))∧(Dq W 0 d x∧d.h.Ok)∧Gr w4 W) ⟨setRow_heap _ _ _ _ _ (0,0) HNw.out,⟨dq_row HDd.out.1 HNw.out _,HDd.out.2⟩,gr_setRow HGd.out HGb.out.size _⟩ ?_
    obtain ⟨o,ho⟩:∃o:Nat,o=wb.heap.size:=⟨_,rfl⟩
    rw [←ho]
    clear ho HDd HS1 HGd HSD HOD HGb HNw
    clear wd
    clear wb
    revert o d
    exact CONT.out
  case af=>
   go_simp
   refine hK.out _ _ (HS.out _ ((Gr.refl _).alloc _).drew) (fun hx=>?_)
   clear hK K hx
   refine wpAnyH_ready (rs:=[10]) (by kernel_rfl) (by simp) ?_
   refine AllReadyH.cons rfl (fun K hK=>?_) AllReadyH.nil
   go_simp
   refine (HBy.out _).mono ?_
   rintro e wb ⟨rfl,Gb⟩
   have HGb:Hid (Gr w4 wb):=Gr.trans (((Gr.refl _).alloc _).drew) Gb
   have HNb:Hid (wb.heap[w4.heap.size]?=some (.cells _ 84 (0,0))):=Kc.up_h Gb (Kc.up_h (Gr.refl _).drew (heap_alloc_new w4 _))
   clear Gb
   refine hK.out _ _ (HS.out _ HGb.out) (fun hx=>?_)
   clear hK K hx
   refine wpAnyH_ready (rs:=[13]) (by kernel_rfl) (by simp) ?_
   refine AllReadyH.cons rfl (fun K hK=>?_) AllReadyH.nil
   go_simp
   refine (HRun.out _ (HGb.out)).mono ?_
   rintro e wd ⟨d,rfl,DD,Gd⟩
   have HDd:Hid (Dq wd 0 d x∧d.h.Ok):=DD
   have HGd:Hid (Gr w4 wd):=Gr.trans (HGb.out) Gd
   have HSD:Hid ((qA d).size=41):=qA_size DD.2
   have HOD:Hid ((qA d).all (·.oneCell')=true):=one_qA DD.1.mem.cells.2 (owns_cells DD.1.out).2.1 (owns_cells DD.1.sto).2.1
   clear DD
   have HNw:Hid (wd.heap[w4.heap.size]?=some (.cells _ 84 (0,0))):=Kc.up_h Gd HNb.out
   clear Gd
   refine hK.out _ _ (HS.out _ HGd.out) (fun hx=>?_)
   clear hK K hx
   have HS1:Hid _:=HS.out _ HGd.out
   refine wpAnyH_take (i:=14) (v:=.tuple #[.agg (qA d),.bool true]) rfl (by kernel_rfl) (by kernel_rfl) (by kernel_rfl) (fun _ _ _ h=>h) (Or.inl ⟨by rfl,fun W hW=>by obtain ⟨y0,y1,y2,y3,y4⟩:=hW;go_simp⟩) HS1.out ?_
   simp only [List.getElem_toArray,List.getElem_cons_succ,List.getElem_cons_zero,Act.put,List.setIfInBounds_toArray,List.set_cons_zero,List.set_cons_succ]
   refine wpAnyH_take (i:=15) (v:=.agg (qA d)) rfl (by kernel_rfl) (by kernel_rfl) (by kernel_rfl) (fun _ _ _ h=>h) (Or.inl ⟨by rfl,fun W hW=>by obtain ⟨y0,y1,y2,y3,y4⟩:=hW;go_simp⟩) HS1.out ?_
   simp only [List.getElem_toArray,List.getElem_cons_succ,List.getElem_cons_zero,Act.put,List.setIfInBounds_toArray,List.set_cons_zero,List.set_cons_succ]
   refine wpAnyH_take (i:=16) (v:=.bool true) rfl (by kernel_rfl) (by kernel_rfl) (by kernel_rfl) (fun _ _ _ h=>h) (Or.inl ⟨by rfl,fun W hW=>by obtain ⟨y0,y1,y2,y3,y4⟩:=hW;go_simp⟩) HS1.out ?_
   simp only [List.getElem_toArray,List.getElem_cons_succ,List.getElem_cons_zero,Act.put,List.setIfInBounds_toArray,List.set_cons_zero,List.set_cons_succ]
   refine held_store_row (i:=18) (by kernel_rfl) rfl rfl 84 (.tmp 8) (.tmp 43) rfl w4.heap.size (qA d) (by simp [Act.eval]) (by simp [Act.eval]) 84 _ HNw.out (by rw [HSD.out];exact iQ) (by rw [HSD.out];rfl) HOD.out ?_ ?_
   ·exact HS.out _ (gr_setRow HGd.out (Nat.le_refl _) _)
   refine wpAnyH_take (i:=19) (v:=.bool true) rfl (by kernel_rfl) (by kernel_rfl) (by kernel_rfl) (fun _ _ _ h=>h) (Or.inl ⟨by rfl,fun W hW=>by obtain ⟨y0,y1,y2,y3,y4⟩:=hW;go_simp⟩) (HS.out _ (gr_setRow HGd.out (Nat.le_refl _) _)) ?_
   simp only [List.getElem_toArray,List.getElem_cons_succ,List.getElem_cons_zero,Act.put,List.setIfInBounds_toArray,List.set_cons_zero,List.set_cons_succ]
   refine wpAnyH_done (by kernel_rfl) ?_ _
   refine at_world (fun W=>W.heap[w4.heap.size]?=some (.cells (qA d) 84 (0,0))∧(Dq W 0 d x∧d.h.Ok)∧Gr w4 W) ⟨setRow_heap _ _ _ _ _ (0,0) HNw.out,⟨dq_row HDd.out.1 HNw.out _,HDd.out.2⟩,gr_setRow HGd.out (Nat.le_refl _) _⟩ ?_
   obtain ⟨o,ho⟩:∃o:Nat,o=w4.heap.size:=⟨_,rfl⟩
   rw [←ho]
   clear ho HDd HS1 HGd HSD HOD HGb HNw HNb
   clear wd
   clear wb
   revert o d
   exact CONT.out
 ·intro d o W ⟨KO,KQ,GW⟩
  have HQ:Hid (Dq W 0 d x∧d.h.Ok):=KQ
  have HG5:Hid (Gr w3 W):=HG4.out.trans GW
  have HO5:Hid (W.heap[o]?=some (.cells (qA d) 84 (0,0))):=KO
  have HP5:Hid (W.heap[w.heap.size]?=some (.cells #[.int .i64 k,.int .i64 n] 53 (0,0))):=Kc.up_h HG5.out HP3.out
  have HD5:Hid (W.heap[w.heap.size+1]?=some (.cells Z 84 (0,0))):=Kc.up_h HG5.out HD3.out
  have HE5:Hid (Ev 0 W base g room s L1 p1 sl m1):=HE3.out.of HG5.out
  have HF5:Hid (Fm base w W):=HF3.out.trans (Fm.ofGr HG5.out (Nat.le_trans hbl (by omega)))
  have k39:W.cell? ⟨o,39,none⟩=some (.int .i64 x.n):=(cell_of_row _ _ _ _ _ _ KO).trans (by rw [qA_fld KQ.2 2];simp [KQ.1.n])
  clear KO KQ GW HS HBy HRun HE4 HE3 HB4 HP3 HD3 HH3 HG4 HG5 HF3 hlt3
  clear w4
  by_cases hx0:x.n=0
  ·rw [hx0] at k39
   have HX0:Hid (x.n=0):=hx0
   have HW5:Hid (∀V:World,Gr W V→Calls Tryz.prog 28 #[.pointer (some ⟨g,0,none⟩),.agg #[.int .i64 k,.int .i64 1]] V fun e w'=>∃d,e=.returned (.agg (qA d))∧(Dq w' 0 d x1∧d.h.Ok)∧Gr V w'):=fun V G=>HWK.out hx0 V (HF5.out.below.trans (Below.mono G (Nat.le_trans hbl (by have:=(Array.getElem?_eq_some_iff.1 HD5.out).1;omega)))) (HE5.out.of G)
   have HS5:Hid (∀V:World,Gr W V→V.cell? ⟨w.heap.size,0,none⟩=some (.int .i64 k)):=fun V G=>cell_of_row _ _ _ _ _ _ (Kc.up_h G HP5.out)
   clear hx0 HWK
   go_wp2_with fail
   refine wp_region_held_drew (S:=fun W=>W.cell? ⟨w.heap.size,0,none⟩=some (.int .i64 k)) (by kernel_rfl) ?_ (fun hHeld=>?_)
   ·exact HS5.out _ (Gr.refl _).drew
   have HS0:Hid _:=hHeld
   clear hHeld
   refine wpAnyH_take (i:=0) (v:=.pointer (some ⟨g,0,none⟩)) rfl (by kernel_rfl) (by kernel_rfl) (by kernel_rfl) (fun _ _ _ h=>h) (Or.inl ⟨by rfl,fun W hW=>by have y0:=hW;go_simp⟩) HS0.out ?_
   simp only [List.getElem_toArray,List.getElem_cons_succ,List.getElem_cons_zero,Act.put,List.setIfInBounds_toArray,List.set_cons_zero,List.set_cons_succ]
   refine wpAnyH_take (i:=1) (v:=.pointer (some ⟨g,0,none⟩)) rfl (by kernel_rfl) (by kernel_rfl) (by kernel_rfl) (fun _ _ _ h=>h) (Or.inl ⟨by rfl,fun W hW=>by have y0:=hW;go_simp⟩) HS0.out ?_
   simp only [List.getElem_toArray,List.getElem_cons_succ,List.getElem_cons_zero,Act.put,List.setIfInBounds_toArray,List.set_cons_zero,List.set_cons_succ]
   refine wpAnyH_take (i:=2) (v:=.pointer (some ⟨g,0,none⟩)) rfl (by kernel_rfl) (by kernel_rfl) (by kernel_rfl) (fun _ _ _ h=>h) (Or.inl ⟨by rfl,fun W hW=>by have y0:=hW;go_simp⟩) HS0.out ?_
   simp only [List.getElem_toArray,List.getElem_cons_succ,List.getElem_cons_zero,Act.put,List.setIfInBounds_toArray,List.set_cons_zero,List.set_cons_succ]
   refine wpAnyH_take (i:=3) (v:=.pointer (some ⟨w.heap.size,0,none⟩)) rfl (by kernel_rfl) (by kernel_rfl) (by kernel_rfl) (fun _ _ _ h=>h) (Or.inl ⟨by rfl,fun W hW=>by have y0:=hW;go_simp⟩) HS0.out ?_
   simp only [List.getElem_toArray,List.getElem_cons_succ,List.getElem_cons_zero,Act.put,List.setIfInBounds_toArray,List.set_cons_zero,List.set_cons_succ]
   refine wpAnyH_take (i:=4) (v:=.int .i64 k) rfl (by kernel_rfl) (by kernel_rfl) (by kernel_rfl) (fun _ _ _ h=>h) (Or.inl ⟨by rfl,fun W hW=>by have y0:=hW;go_simp⟩) HS0.out ?_
   simp only [List.getElem_toArray,List.getElem_cons_succ,List.getElem_cons_zero,Act.put,List.setIfInBounds_toArray,List.set_cons_zero,List.set_cons_succ]
   refine wpAnyH_take (i:=5) (v:=.agg #[.int .i64 k,.int .i64 1]) rfl (by kernel_rfl) (by kernel_rfl) (by kernel_rfl) (fun _ _ _ h=>h) (Or.inl ⟨by rfl,fun W hW=>by have y0:=hW;go_simp⟩) HS0.out ?_
   simp only [List.getElem_toArray,List.getElem_cons_succ,List.getElem_cons_zero,Act.put,List.setIfInBounds_toArray,List.set_cons_zero,List.set_cons_succ]
   refine wpAnyH_ready (rs:=[6]) (by kernel_rfl) (by simp) ?_
   refine AllReadyH.cons rfl (fun K hK=>?_) AllReadyH.nil
   go_simp
   refine (HW5.out _ (Gr.refl _).drew).mono ?_
   rintro e w6 ⟨d6,rfl,Q6,G6⟩
   have HQ6:Hid (Dq w6 0 d6 x1∧d6.h.Ok):=Q6
   have HG6:Hid (Gr W w6):=(Gr.refl _).drew.trans G6
   have HSD:Hid ((qA d6).size=41):=qA_size Q6.2
   have HOD:Hid ((qA d6).all (·.oneCell')=true):=one_qA Q6.1.mem.cells.2 (owns_cells Q6.1.out).2.1 (owns_cells Q6.1.sto).2.1
   have HD6:Hid (w6.heap[w.heap.size+1]?=some (.cells Z 84 (0,0))):=Kc.up_h HG6.out HD5.out
   have HP6:Hid (w6.heap[w.heap.size]?=some (.cells #[.int .i64 k,.int .i64 n] 53 (0,0))):=Kc.up_h HG6.out HP5.out
   clear Q6 G6
   refine hK.out _ _ (HS5.out _ HG6.out) (fun hx=>?_)
   clear hK K hx
   refine held_store_row (i:=7) (by kernel_rfl) rfl rfl 84 (.tmp 4) (.tmp 58) rfl (w.heap.size+1) (qA d6) (by simp [Act.eval]) (by simp [Act.eval]) 84 Z HD6.out (by rw [HSD.out];exact iQ) (by rw [HSD.out];exact HZ.out) HOD.out ?_ ?_
   ·exact cell_of_row _ _ _ _ _ _ ((setRow_other _ _ _ _ (by omega)).trans HP6.out)
   refine wpAnyH_done (by kernel_rfl) ?_ _
   go_wp2_with fail
   refine bodyPost_ret (v:=.agg (qA d6)) (results_cell_row rfl _ _ _ _ _ (0,0) _ rfl (setRow_heap _ _ _ _ _ (0,0) HD6.out) Tryz.underlying84 rfl (by rw [HSD.out];exact iQ)) rfl ⟨d6,rfl,⟨?_,HQ6.out.2⟩,?_,?_⟩
   ·exact dq_row HQ6.out.1 HD6.out _
   ·exact (HE5.out.of HG6.out).oth HD6.out (by decide) fun k hk=>setRow_other _ _ _ _ hk
   ·exact (HF5.out.trans (Fm.ofGr HG6.out (Nat.le_trans hbl (by have:=(Array.getElem?_eq_some_iff.1 HD5.out).1;omega)))).setRow (by omega) (by omega) _
  ·have hx2:((x.n:Int) == 0)=false:=by simp;omega
   have HX0:Hid (¬x.n=0):=hx0
   have HSD:Hid ((qA d).size=41):=qA_size HQ.out.2
   have HOD:Hid ((qA d).all (·.oneCell')=true):=one_qA HQ.out.1.mem.cells.2 (owns_cells HQ.out.1.out).2.1 (owns_cells HQ.out.1.sto).2.1
   clear hx0 HWK
   generalize hQA:qA d=QA at *
   have HQA:Hid (qA d=QA):=hQA
   clear hQA
   go_wp2_with (first
    | (refine wpList_load_row rfl 84 _ rfl o rfl 84 QA (0,0) _ ?ll1 Tryz.underlying84 rfl (by rw [HSD.out];exact iQ) ?_;(case ll1=>exact HO5.out))
    | (refine wpList_store_row rfl 84 _ _ rfl (w.heap.size+1) QA rfl rfl 84 Z ?ss1 (by rw [HSD.out];exact iQ) (by rw [HSD.out];exact HZ.out) HOD.out ?_;(case ss1=>exact HD5.out)))
   refine bodyPost_ret (v:=.agg QA) (results_cell_row rfl _ _ _ _ _ (0,0) _ rfl (setRow_heap _ _ _ _ _ (0,0) HD5.out) Tryz.underlying84 rfl (by rw [HSD.out];exact iQ)) rfl ⟨d,by rw [HQA.out],⟨?_,HQ.out.2⟩,?_,?_⟩
   ·exact dq_row HQ.out.1 HD5.out _
   ·exact HE5.out.oth HD5.out (by decide) fun k hk=>setRow_other _ _ _ _ hk
   ·exact HF5.out.setRow (by omega) (by omega) _
end
end Go.Proofs.YtchllaeembmioaaGreatDoor.En
