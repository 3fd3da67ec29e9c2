/-
  Pj, Pk: texts of ours that lie in one file.
-/
import Derived.Test.YtchllaeembmioaaGreatDoorK29
set_option linter.unusedVariables false
set_option linter.unusedSimpArgs false
set_option maxHeartbeats 8000000
set_option maxRecDepth 100000
namespace Go.Proofs.YtchllaeembmioaaGreatDoor.Mp
open Go.ChangeShapes Go.WideShapes Go.ChangeAt Go.RowKit Mm Hh Hc Mi

theorem one_gA (h:Hv)(M O S:Value)(n:Int)(h1:M.oneCell'=true)(h2:O.oneCell'=true)(h3:S.oneCell'=true):(gA h M O n S).all (·.oneCell')=true:=by
 refine all_oneCell_toArray ?_
 intro v hv
 simp only [gL,hL,List.mem_append,List.mem_map,List.mem_cons,List.not_mem_nil,or_false] at hv
 rcases hv with (⟨n,_,rfl⟩|rfl|rfl|rfl|rfl|rfl)|rfl|rfl|rfl|rfl<;>first|rfl|assumption
theorem Ts_gr {w w':World}(T:Gc.Ts w w.heap.size)(G:Gr w w'):Gc.Ts w' w'.heap.size:=
 ⟨fun i n e=>(G.cell _ (by exact T.b1)).trans (T.sizes i n e),Nat.lt_of_lt_of_le T.b1 G.size⟩
theorem mplay_ok {bf bt steps:Int}{h:Hv}{l:List UInt8}{code:List Mv}(o:h.Ok)(hs:h.state=0)(hl:l.length≤4096)(hn:∀i∈code,Hh.W i.n):(mplay bf bt steps h l code).Ok:=by
 have G:=Gd.mrun (steps:=steps) (Gd.start (bf:=bf) (bt:=bt) o hs hl) hn code.length
 rw [List.take_length] at G
 unfold mplay mend
 split
 ·have:=W.lo ((mrun bf bt steps (mstart h l) code).here+4)
  exact G.ok.hart (G.ok.h.go this.1 this.2)
 ·exact G.ok
end Go.Proofs.YtchllaeembmioaaGreatDoor.Mp
namespace Go.Proofs.YtchllaeembmioaaGreatDoor.Mp
open Go.ChangeShapes Go.WideShapes Go.ChangeAt Go.RowKit Mm Hh Hc Mi

theorem Run_own {w:World}{ao:Option Addr}{n:Nat}(cap:Nat){code:List Mv}(C:Cs w ao n code)(T:Tr w)(Ts:Gc.Ts w w.heap.size)(hn:n≤140737488351232)(hm:mayC code=true){h:Hv}(o:h.Ok){mo:Option Addr}{ml mc:Nat}{l:List UInt8}(M:Mem w mo ml l)(hcap:mo=none→mc=0)(bf bt steps:Int)(s0:0≤steps)(s1:steps≤400)(hh:may h=true)(hs:h.state=0)(hml:ml≤4096):
  Calls Tryz.prog 53 #[.slice ao n cap,.agg (hA h),.slice mo ml mc,.agg #[.int .u32 bf,.int .u32 bt],.int .i64 steps] w fun e w'=>∃M O S,e=.returned (.tuple #[.agg (gA (mplay bf bt steps h l code).h M O (mplay bf bt steps h l code).n S),.bool true])∧Dr w' (mplay bf bt steps h l code) M O S∧Own w' 0 M (mplay bf bt steps h l code).m∧Gr w w':=by
 have M0:Hid (∀W:World,Gr w W→Calls Tryz.prog 74 #[.slice ao n cap] W fun e w'=>e=.returned (.bool true)∧Gr W w'):=fun W G=>by rw [←hm];exact PMay_any cap (C.of G) (T.of G) hn
 have Wi:Hid (∀W:World,Calls Tryz.prog 75 #[.int .i64 steps,.int .i64 0,.int .i64 400] W fun e w'=>e=.returned (.bool true)∧w'=W):=fun W=>by
  have:=within_any steps 0 400 W
  rwa [decide_eq_true ⟨s0,s1⟩] at this
 have hll:l.length≤4096:=by have:=M.len;omega
 have NR:Hid (∀W:World,Gr w W→Calls Tryz.prog 76 #[.agg (hA h),.slice mo ml mc,.agg #[.int .u32 bf,.int .u32 bt],.int .i64 steps] W fun e w'=>∃v,e=.returned (.tuple #[.agg (Gc.cB ⟨h,v,nilS,nilS⟩ (rsR (mstart h l) bf bt steps)),.bool true])∧Own w' 0 v l∧Gr W w'):=fun W G=>by
  exact newRunner_gen (PV:=fun W v=>Own W 0 v l) o o l bf bt steps (fun _ _ v hv e=>hv.to e) (fun _ v hv=>hv.cells) (fun V GV=>(NewCore_yes o (M.of (G.trans GV)) hcap hml hh hs).mono fun e w' ⟨v,e1,e2,e3⟩=>⟨v,e1,e2.base (w':=w') (Nat.zero_le _),e3⟩)
 have RN:Hid (∀(w0 X:World) (g:Nat),Gr w w0→Gr w0 X→Pr X w0.heap.size g (mstart h l) bf bt steps→Calls Tryz.prog 77 #[.pointer (some ⟨g,0,none⟩),.slice ao n cap] X fun e w'=>e=.returned (.tuple #[])∧Pr w' w0.heap.size g (mplay bf bt steps h l code) bf bt steps∧Gr w0 w'):=fun w0 X g G0 GX I=>run_any cap (C.of G0) hm o hs hll (Ts_gr Ts G0) I GX
 have HOk:Hid (mplay bf bt steps h l code).Ok:=mplay_ok o hs hll C.wn
 have HS:Hid ((hA h).size=37):=hA_size o
 have HR1:Hid (∀v,(Gc.cB ⟨h,v,nilS,nilS⟩ (rsR (mstart h l) bf bt steps)).size=49):=fun v=>by rw [cB_size o,rsR_len rfl]
 have HRo:Hid (∀v:Value,v.oneCell'=true→(Gc.cB ⟨h,v,nilS,nilS⟩ (rsR (mstart h l) bf bt steps)).all (·.oneCell')=true):=fun v hv=>one_cB _ _ _ _ _ hv rfl rfl
 have HOh:Hid h.Ok:=o
 generalize hA h=H0 at *
 generalize mplay bf bt steps h l code=r at *
 clear C T Ts hn hm o hh hs M hcap s0 s1 hll hml
 go_enter Tryz.func53,Tryz.ntmps53
 go_wp2_with fail
 refine (M0.out _ ((((Gr.refl _).alloc _).alloc _).alloc _)).mono ?_
 rintro e w1 ⟨rfl,G1⟩
 obtain ⟨b0,b1,b2⟩:=three_of G1
 have HG1:Hid (Gr w w1):=((((Gr.refl _).alloc _).alloc _).alloc _).trans G1
 have HBZ:Hid (∃Z:Array Value,Z.size=41∧w1.heap[w.heap.size+1+1]?=some (.cells Z 84 (0,0))):=⟨_,rfl,b2⟩
 have HB1:Hid (w1.heap[w.heap.size]?=some (.cells H0 51 (0,0))):=b0
 have r0:w1.cell? ⟨w.heap.size+1,0,none⟩=some (.int .u32 bf):=cell_of_row _ _ _ _ _ _ b1
 have r1:w1.cell? ⟨w.heap.size+1,1,none⟩=some (.int .u32 bt):=cell_of_row _ _ _ _ _ _ b1
 clear G1 b0 b1 b2 M0
 obtain ⟨Z,hz,hZ⟩:=HBZ.out
 have HZ2:Hid (w1.heap[w.heap.size+1+1]?=some (.cells Z 84 (0,0))):=hZ
 have HZs:Hid (Z.size=41):=hz
 clear HBZ hz hZ
 go_wp2_with fail
 refine (Wi.out _).mono ?_
 rintro e w' ⟨rfl,rfl⟩
 clear Wi
 go_wp2_with (refine wpList_load_row rfl 51 _ rfl w.heap.size rfl 51 H0 (0,0) _ ?lh1 Tryz.underlying51 rfl (by rw [HS.out];exact iHa) ?_;(case lh1=>exact HB1.out))
 refine (NR.out _ HG1.out).mono ?_
 rintro e w2 ⟨v,rfl,hv,G2⟩
 have HG2:Hid (Gr w w2):=HG1.out.trans G2
 have HR:Hid ((Gc.cB ⟨h,v,nilS,nilS⟩ (rsR (mstart h l) bf bt steps)).size=49):=HR1.out v
 have HRo2:Hid ((Gc.cB ⟨h,v,nilS,nilS⟩ (rsR (mstart h l) bf bt steps)).all (·.oneCell')=true):=HRo.out v hv.cells.2
 have HZ3:Hid (w2.heap[w.heap.size+1+1]?=some (.cells Z 84 (0,0))):=heap_up G2 HZ2.out
 have HX:Hid (∀Y:Array Value,Gr w2 ((w2.alloc (.cells Y 147)).setRow w2.heap.size (Gc.cB ⟨h,v,nilS,nilS⟩ (rsR (mstart h l) bf bt steps)))):=fun Y=>gr_setRow ((Gr.refl _).alloc _) (Nat.le_refl _) _
 have HP:Hid (∀Y:Array Value,Pr ((w2.alloc (.cells Y 147)).setRow w2.heap.size (Gc.cB ⟨h,v,nilS,nilS⟩ (rsR (mstart h l) bf bt steps))) w2.heap.size w2.heap.size (mstart h l) bf bt steps):=fun Y=>by
  refine ⟨⟨h,v,nilS,nilS⟩,rfl,⟨by decide,by decide,by decide,HOh.out,Nat.le_refl _,setRow_heap _ _ _ _ _ (0,0) (heap_alloc_new w2 _),?_,World.ownsRow_nil _ _ _ _,World.ownsRow_nil _ _ _ _⟩⟩
  exact hv.to fun k c f hk=>(HX.out Y).block k (Array.getElem?_eq_some_iff.1 hk).1
 clear G2 hv NR r0 r1 HB1 HZ2 HR1 HRo
 generalize Gc.cB ⟨h,v,nilS,nilS⟩ (rsR (mstart h l) bf bt steps)=R at *
 go_wp2_with (refine wpList_store_row rfl 147 _ _ rfl w2.heap.size R rfl rfl 147 _ (heap_alloc_new w2 _) (by rw [HR.out];exact iRunner) (by rw [HR.out];rfl) HRo2.out ?_)
 refine (RN.out w2 _ w2.heap.size HG2.out (HX.out _) (HP.out _)).mono ?_
 rintro e w3 ⟨rfl,I3,G3⟩
 have HG3:Hid (Gr w w3):=HG2.out.trans G3
 have HZ4:Hid (w3.heap[w.heap.size+1+1]?=some (.cells Z 84 (0,0))):=heap_up G3 HZ3.out
 have k47:w3.cell? ⟨w2.heap.size,47,none⟩=some (.int .i64 r.n):=I3.fld HOk.out 3
 obtain ⟨c,hc,I⟩:=I3
 obtain ⟨ma,mcap,hM,MM⟩:=I.mem.mem
 obtain ⟨oa,oc,hO,_⟩:=wm_own rfl I.out
 obtain ⟨sa,sc,hS⟩:=owns_word I.sto
 have k37:w3.cell? ⟨w2.heap.size,37,none⟩=some (.slice ma r.m.length mcap):=by rw [←hM];exact I.fcell 0
 have k38:w3.cell? ⟨w2.heap.size,38,none⟩=some (.slice oa r.out.length oc):=by rw [←hO];exact I.fcell 1
 have k39:w3.cell? ⟨w2.heap.size,39,none⟩=some (.slice sa r.sto.length sc):=by rw [←hS];exact I.fcell 2
 have HRg:Hid (w3.rangeAt w2.heap.size 0 (hL r.h)):=fun j u hj=>by
  have hj2:j<37:=by have:=(List.getElem?_eq_some_iff.1 hj).1;rwa [hL_len HOk.out.h] at this
  rw [Nat.zero_add,I.hcell hj2,hc]
  exact hj
 have HLn:Hid ((hL r.h).length=37):=hL_len HOk.out.h
 have HBu:Hid (Tryz.prog.built 84 [(0,.agg (hL r.h).toArray),(1,.slice ma r.m.length mcap),(2,.slice oa r.out.length oc),(3,.int .i64 r.n),(4,.slice sa r.sto.length sc)]=some (gA r.h (.slice ma r.m.length mcap) (.slice oa r.out.length oc) r.n (.slice sa r.sto.length sc))):=built_did5 HOk.out.h _ _ _ _ rfl rfl rfl
 have HD:Hid (∀cs:Array Value,Dr (w3.setRow (w.heap.size+1+1) cs) r (.slice ma r.m.length mcap) (.slice oa r.out.length oc) (.slice sa r.sto.length sc)):=fun cs=>by
  have ne:∀{t:Nat},t≠84→∀{j:Nat} {o:Array Value} {f:Nat×Nat},w3.heap[j]?=some (.cells o t f)→(w3.setRow (w.heap.size+1+1) cs).heap[j]?=w3.heap[j]?:=fun ht _ _ _ hj=>setRow_other _ _ _ _ (ne_of_types hj HZ4.out ht)
  obtain ⟨ma',mcap',hM',MM'⟩:=(I.mem.to fun k o f hk=>ne (by decide) hk).mem
  refine ⟨HOk.out,?_,⟨w2.heap.size,?_⟩,⟨w2.heap.size,?_⟩⟩
  ·rw [←hM,hM']
   exact ⟨ma',mcap',rfl,MM'⟩
  ·rw [←hO]
   exact owns_to I.out fun j o f hj=>ne (by decide) hj
  ·rw [←hS]
   exact owns_to I.sto fun j o f hj=>ne (by decide) hj
 have HDw:Hid (∀cs:Array Value,Own (w3.setRow (w.heap.size+1+1) cs) 0 (.slice ma r.m.length mcap) r.m):=fun cs=>by
  rw [←hM]
  exact I.mem.to fun k o f hk=>setRow_other _ _ _ _ (ne_of_types hk HZ4.out (by decide))
 have HDz:Hid ((gA r.h (.slice ma r.m.length mcap) (.slice oa r.out.length oc) r.n (.slice sa r.sto.length sc)).size=41):=gA_size HOk.out.h _ _ _ _
 have HDo:Hid ((gA r.h (.slice ma r.m.length mcap) (.slice oa r.out.length oc) r.n (.slice sa r.sto.length sc)).all (·.oneCell')=true):=one_gA _ _ _ _ _ rfl rfl rfl
 clear RN G3 I MM hM hO hS HX HP hc HOk
 generalize hD:gA r.h (.slice ma r.m.length mcap) (.slice oa r.out.length oc) r.n (.slice sa r.sto.length sc)=D at *
 have HDe:Hid (gA r.h (.slice ma r.m.length mcap) (.slice oa r.out.length oc) r.n (.slice sa r.sto.length sc)=D):=hD
 clear hD
 generalize hHl:hL r.h=HL at *
 clear hHl
 generalize r.m.length=mn at *
 generalize r.out.length=on at *
 generalize r.sto.length=sn at *
 go_wp2_with (first
  | (refine wpList_load_mid rfl 51 _ rfl w2.heap.size 0 rfl HL _ ?lm1 Tryz.underlying51 rfl (by rw [HLn.out];exact iHa) ?_;(case lm1=>exact HRg.out))
  | (refine wpList_buildTo rfl 84 _ rfl _ rfl D (by have:=HBu.out;simp [Act.eval,Act.put];exact this) ?_)
  | (refine wpList_store_row rfl 84 _ _ rfl (w.heap.size+1+1) D rfl rfl 84 Z ?sr1 (by rw [HDz.out];exact iDidA) (by rw [HDz.out];exact HZs.out) HDo.out ?_;(case sr1=>exact HZ4.out)))
 refine bodyPost_ret (v:=.tuple #[.agg D,.bool true]) (Hr.results_cell_tmp' Tryz.results53 _ _ _ _ _ (0,0) _ _ rfl rfl (setRow_heap _ _ _ _ _ (0,0) HZ4.out) Tryz.underlying84 rfl (by rw [HDz.out];exact iDidA)) rfl ⟨_,_,_,by rw [HDe.out],HD.out _,HDw.out _,?_⟩
 exact gr_setRow HG3.out (by omega) _
end Go.Proofs.YtchllaeembmioaaGreatDoor.Mp
