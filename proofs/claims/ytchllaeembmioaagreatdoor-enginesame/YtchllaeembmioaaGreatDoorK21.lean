/-
  Ko: texts of ours that lie in one file.
-/
import Derived.Test.YtchllaeembmioaaGreatDoorK19
import Derived.Deep.RegionLaw
set_option linter.unusedVariables false
set_option linter.unusedSimpArgs false
set_option maxHeartbeats 8000000
set_option maxRecDepth 100000
namespace Go.Proofs.YtchllaeembmioaaGreatDoor.Kc
open Go.ChangeShapes Go.WideShapes Go.ChangeAt Go.RowKit Mm Ts Hc

structure Once (P:Prop):Prop where
 out:P
theorem share {P Q:Prop}(h:Once P→Q)(p:P):Q:=h ⟨p⟩
structure Ps (w W:World) (o:Nat) (room pu sl bp:Int) (va:Option Addr) (vn vc g m cp:Nat) (L:List Bv) (xs:List Value):Prop where
 lo:w.heap.size+1+1<o
 b:W.heap[w.heap.size+1]?=some (.cells #[.int .u32 bp,.slice va vn vc] 45 (0,0))
 z:W.heap[w.heap.size+1+1]?=some (.cells #[.int .i64 0,.slice none 0 0,.int .i64 0,.int .i64 0] 35 (0,0))
 r:W.heap[o]?=some (.cells #[.int .i64 room,.slice (some ⟨g,0,none⟩) m cp,.int .i64 pu,.int .i64 sl] 35 (0,0))
 own:W.ownsRow (w.heap.size+1+1+1) 45 2 (.slice (some ⟨g,0,none⟩) m cp) m xs
 bx:Bx W w.heap.size L xs
 len:L.length=m
 gr:Gr w W
section
variable {w W W' : World} {o : Nat} {room pu sl bp : Int} {va : Option Addr} {vn vc g m cp : Nat} {L : List Bv} {xs : List Value}
theorem Ps.of (P:Ps w W o room pu sl bp va vn vc g m cp L xs)(G:Gr W W'):Ps w W' o room pu sl bp va vn vc g m cp L xs:=
 ⟨P.lo,up_h G P.b,up_h G P.z,up_h G P.r,owns_gr P.own G,P.bx.of G,P.len,P.gr.trans G⟩
theorem Ps.row (P:Ps w W o room pu sl bp va vn vc g m cp L xs)(Q:Ch g W W'):W'.heap[o]?=some (.cells #[.int .i64 room,.slice (some ⟨g,0,none⟩) m cp,.int .i64 pu,.int .i64 sl] 35 (0,0)):=row_keep P.own Q P.r (by decide)
theorem Ps.put (P:Ps w W o room pu sl bp va vn vc g m cp L xs)(Q:Ch g W W'){g' m' cp':Nat}{L':List Bv}{ys:List Value}(O:W'.ownsRow (w.heap.size+1+1+1) 45 2 (.slice (some ⟨g',0,none⟩) m' cp') m' ys)(X:Bx W' w.heap.size L' ys)(hl:L'.length=m'):Ps w (W'.setCell ⟨o,1,none⟩ (.slice (some ⟨g',0,none⟩) m' cp')) o room pu sl bp va vn vc g' m' cp' L' ys:=by
 have hg:=(P.own.lt g rfl).1
 have hr:=P.row Q
 have hlo:=P.lo
 refine ⟨P.lo,?_,?_,?_,?_,?_,hl,?_⟩
 ·rw [hso (by show w.heap.size+1≠o;omega),Q.block _ (gs P.b).1 (fun e=>by injection e with e;omega)]
  exact P.b
 ·rw [hso (by show w.heap.size+1+1≠o;omega),Q.block _ (gs P.z).1 (fun e=>by injection e with e;omega)]
  exact P.z
 ·rw [hss hr];rfl
 ·exact owns_to O fun q c r hq=>hso (by exact ne_of_types hq hr (by decide))
 ·exact X.to fun q c r hq=>hso (by exact ne_of_types hq hr (by decide))
 ·exact (ch_gr P.gr (by omega) Q).setCell (by show w.heap.size≤o;omega) _
theorem Ps.push (P:Ps w W o room pu sl bp va vn vc g m cp L xs)(v:Int):Ps w (W.setCell ⟨o,2,none⟩ (.int .i64 v)) o room v sl bp va vn vc g m cp L xs:=by
 have hlo:=P.lo
 have hr:=P.r
 refine ⟨P.lo,?_,?_,?_,?_,?_,P.len,?_⟩
 ·rw [hso (by show w.heap.size+1≠o;omega)];exact P.b
 ·rw [hso (by show w.heap.size+1+1≠o;omega)];exact P.z
 ·rw [hss hr];rfl
 ·exact owns_to P.own fun q c r hq=>hso (by exact ne_of_types hq hr (by decide))
 ·exact P.bx.to fun q c r hq=>hso (by exact ne_of_types hq hr (by decide))
 ·exact P.gr.setCell (by show w.heap.size≤o;omega) _
theorem Ps.fin (P:Ps w W o room pu sl bp va vn vc g m cp L xs)(ok:∀b∈L,b.Ok):((((W.setCell ⟨w.heap.size+1+1,0,none⟩ (.int .i64 room)).setCell ⟨w.heap.size+1+1,1,none⟩ (.slice (some ⟨g,0,none⟩) m cp)).setCell ⟨w.heap.size+1+1,2,none⟩ (.int .i64 pu)).setCell ⟨w.heap.size+1+1,3,none⟩ (.int .i64 sl)).heap[w.heap.size+1+1]?=some (.cells #[.int .i64 room,.slice (some ⟨g,0,none⟩) m cp,.int .i64 pu,.int .i64 sl] 35 (0,0))∧(Bt w.heap.size ((((W.setCell ⟨w.heap.size+1+1,0,none⟩ (.int .i64 room)).setCell ⟨w.heap.size+1+1,1,none⟩ (.slice (some ⟨g,0,none⟩) m cp)).setCell ⟨w.heap.size+1+1,2,none⟩ (.int .i64 pu)).setCell ⟨w.heap.size+1+1,3,none⟩ (.int .i64 sl)) (some ⟨g,0,none⟩) m L∧m≤cp)∧Gr w ((((W.setCell ⟨w.heap.size+1+1,0,none⟩ (.int .i64 room)).setCell ⟨w.heap.size+1+1,1,none⟩ (.slice (some ⟨g,0,none⟩) m cp)).setCell ⟨w.heap.size+1+1,2,none⟩ (.int .i64 pu)).setCell ⟨w.heap.size+1+1,3,none⟩ (.int .i64 sl)):=by
 refine ⟨four_set P.z _ _ _ _,own_bs (owns_to P.own fun q c r hq=>four_h _ _ _ _ _ _ (ne_of_types hq P.z (by decide))) (P.bx.to fun q c r hq=>four_h _ _ _ _ _ _ (ne_of_types hq P.z (by decide))) ok P.len (by omega) (Nat.le_refl _),?_⟩
 have q1:w.heap.size≤w.heap.size+1+1:=by omega
 exact (((P.gr.setCell (by exact q1) _).setCell (by exact q1) _).setCell (by exact q1) _).setCell (by exact q1) _
end
theorem rm_at:∀(bs:List Bv) (j i:Nat),rmK ((i+j:Nat):Int) bs i=bs.take j++bs.drop (j+1)
 | [],j,i=>by simp [rmK]
 | b::r,0,i=>by
  unfold rmK
  rw [if_pos (by simp),rm_none (by omega)]
  rfl
 | b::r,j+1,i=>by
  unfold rmK
  rw [if_neg (by omega),show i+(j+1)=i+1+j by omega,rm_at r j (i+1)]
  rfl
theorem rm_neg (bs:List Bv):rmK (-1) bs 0=bs:=rm_none (by omega)
theorem PutBad (w:World)(room pu sl bp:Int)(ao va:Option Addr)(n cap vn vc:Nat)(hv:vn<1∨16<vn)(hvb:vn≤140737488351232):
  Calls Tryz.prog 97 #[.agg #[.int .i64 room,.slice ao n cap,.int .i64 pu,.int .i64 sl],.agg #[.int .u32 bp,.slice va vn vc]] w fun e w'=>e=.returned (.tuple #[.agg #[.int .i64 0,.slice none 0 0,.int .i64 0,.int .i64 0],.int .i64 2])∧Gr w w':=by
 have hv2:vn=0∨¬(vn:Int)<1∧(16:Int)<(vn:Int):=by omega
 clear hv
 rcases hv2 with rfl|⟨h0,h1⟩
 all_goals
  go_enter Tryz.func97,Tryz.ntmps97
  go_wp2_with fail
  refine bodyPost_ret (v:=.tuple #[.agg #[.int .i64 0,.slice none 0 0,.int .i64 0,.int .i64 0],.int .i64 2]) (results_ct Tryz.results97 _ _ _ _ _ (0,0) _ _ rfl rfl (three_of (Gr.refl _)).2.2 Tryz.underlying35 rfl iCa) rfl ⟨rfl,(((Gr.refl _).alloc _).alloc _).alloc _⟩
theorem Ch.ofGr' {g:Nat}{w w':World}(G:Gr w w'):Ch g w w':=(Ch.refl g w).gr G
theorem PutT {w:World}{ao:Option Addr}{n:Nat}(cap:Nat){bs:List Bv}(B:Bs w ao n bs)(hn:n*32≤140737488351232)(room pu sl:Int){b0:Bv}{va:Option Addr}{vn vc:Nat}(hb:Bc w b0 (.int .u32 b0.pc) (.slice va vn vc))(hv1:1≤vn)(hv2:vn≤16):
  Calls Tryz.prog 97 #[.agg #[.int .i64 room,.slice ao n cap,.int .i64 pu,.int .i64 sl],.agg #[.int .u32 b0.pc,.slice va vn vc]] w fun e w'=>∃a m c,e=.returned (.tuple #[.agg #[.int .i64 room,.slice a m c,.int .i64 (putP room pu bs b0),.int .i64 sl],.int .i64 0])∧(Bt w.heap.size w' a m (putL room bs b0)∧m≤c)∧Gr w w':=by
 have CP:Hid (∀W:World,Gr w W→Calls Tryz.prog 78 #[.agg #[.int .i64 room,.slice ao n cap,.int .i64 pu,.int .i64 sl]] W fun e w'=>∃g cp xs,e=.returned (.agg #[.int .i64 room,.slice (some ⟨g,0,none⟩) n cp,.int .i64 pu,.int .i64 sl])∧w'.ownsRow W.heap.size 45 2 (.slice (some ⟨g,0,none⟩) n cp) n xs∧Bx w' W.heap.size bs xs∧Gr W w'):=fun W G=>copyC_any cap (B.of G) hn room pu sl
 have HOk:Hid (∀b∈bs,b.Ok):=B.ok
 have HOb:Hid (b0.Ok):=hb.ok
 have HL:Hid (bs.length=n):=B.len
 have AT:Hid (∀W:World,Calls Tryz.prog 92 #[.int .u32 b0.pc] W fun e w'=>∃B,e=.returned (.func (.func 115) #[] #[.pointer (some ⟨B,0,none⟩)])∧w'.cell? ⟨B,0,none⟩=some (.int .u32 b0.pc)∧Gr W w'):=fun W=>at_any W b0.pc
 have IDX:Hid (∀(W:World) (K base b1 g cp:Nat) (xs:List Value),W.ownsRow base 45 2 (.slice (some ⟨g,0,none⟩) n cp) n xs→Bx W b1 bs xs→W.cell? ⟨K,0,none⟩=some (.int .u32 b0.pc)→Calls Tryz.prog 91 #[.slice (some ⟨g,0,none⟩) n cp,.func (.func 115) #[] #[.pointer (some ⟨K,0,none⟩)]] W fun e w'=>e=.returned (.int .i64 (place b0.pc bs 0))∧Gr W w'):=fun W K base b1 g cp xs O X hk=>by
  obtain ⟨hnc,cs,R,rfl⟩:=Rw.open O
  rw [←fidx_place]
  exact idx_at cp (R.bq X HL.out) (by omega) K (fun b=>decide (b.pc=b0.pc)) fun W' b sa sc G' _=>at1_any ((G'.cell _ (by exact World.block_lt_of_cell? W _ hk)).trans hk) b.pc sa b.is.length sc
 have WO:Hid (∀(W:World) (base b1 g m cp k:Nat) (L:List Bv) (xs:List Value),W.ownsRow base 45 2 (.slice (some ⟨g,0,none⟩) m cp) m xs→Bx W b1 L xs→L.length=m→k<m→Calls Tryz.prog 121 #[.slice (some ⟨g,0,none⟩) m cp,.int .i64 k] W fun e w'=>e=.returned (.slice (some ⟨g,0,none⟩) (m-1) cp)∧∃xs',w'.ownsRow base 45 2 (.slice (some ⟨g,0,none⟩) (m-1) cp) (m-1) xs'∧Bx w' b1 (L.take k++L.drop (k+1)) xs'∧Ch g W w'):=fun W base b1 g m cp k L xs O X hl hk=>without_bx O X hl hk
 have CB:Hid (∀W:World,Gr w W→Calls Tryz.prog 93 #[.agg #[.int .u32 b0.pc,.slice va vn vc]] W fun e w'=>∃v,e=.returned (.agg #[.int .u32 b0.pc,v])∧Io w' W.heap.size v b0.is∧Gr W w'):=fun W G=>copyB_any (hb.of G)
 have HP:Hid (place b0.pc bs 0 = -1∨∃j:Nat,place b0.pc bs 0=(j:Int)∧j<n):=by
  rcases place_bd b0.pc bs 0 with h|⟨j,x,h,hx⟩
  ·exact .inl h
  ·rw [Nat.zero_add] at h
   exact .inr ⟨j,h,by rw [←HL.out];exact (List.getElem?_eq_some_iff.1 hx).1⟩
 have HSn:Hid (∀(W:World) (v:Value) (L:List Bv) (xs:List Value),Bx W w.heap.size L xs→Io W w.heap.size v b0.is→Bx W w.heap.size (L++[b0]) (xs++[.int .u32 b0.pc,v])):=fun W v L xs h1 h2=>h1.snoc h2
 have HPL:Hid (∀L1:List Bv,rmK (place b0.pc bs 0) bs 0=L1→(room<((L1.length+1:Nat):Int)→putL room bs b0=(L1++[b0]).drop 1∧putP room pu bs b0=wrap64 (pu+1))∧(¬room<((L1.length+1:Nat):Int)→putL room bs b0=L1++[b0]∧putP room pu bs b0=pu)):=fun L1 e=>by
  unfold putL putP
  rw [e,List.length_append,List.length_singleton]
  exact ⟨fun h=>⟨if_pos h,if_pos h⟩,fun h=>⟨if_neg h,if_neg h⟩⟩
 have HOkP:∀b∈putL room bs b0,b.Ok:=fun b hb2=>by
  have hsub:=rm_sub bs (place b0.pc bs 0) 0
  have h1:∀b∈rmK (place b0.pc bs 0) bs 0++[b0],b.Ok:=fun b h=>by
   rcases List.mem_append.1 h with h|h
   ·exact HOk.out b (hsub.subset h)
   ·rw [List.mem_singleton] at h;rw [h];exact HOb.out
  unfold putL at hb2
  split at hb2
  ·exact h1 b (List.mem_of_mem_drop hb2)
  ·exact h1 b hb2
 have HOkQ:Hid (∀b∈putL room bs b0,b.Ok):=HOkP
 obtain ⟨i0,hi,hz0,hz1,hz2⟩:=info_parts infoB
 clear B hb HOkP
 generalize putL room bs b0=PL at *
 generalize putP room pu bs b0=PP at *
 generalize b0.pc=bp at *
 rcases HP.out with hp|⟨j,hp,hj⟩
 ·have HRm:Hid (rmK (place bp bs 0) bs 0=bs):=by unfold Hid;rw [hp];exact rm_neg bs
  rw [hp] at IDX
  clear HP hp
  go_enter Tryz.func97,Tryz.ntmps97
  go_wp2_with fail
  refine (CP.out _ ((((Gr.refl w).alloc _).alloc _).alloc _)).mono ?_
  rintro e w1 ⟨g,cp,xs,rfl,O1,X1,G1⟩
  have T1:=three_of G1
  have hsz:(((w.alloc (.cells #[.int .i64 room,.slice ao n cap,.int .i64 pu,.int .i64 sl] 35)).alloc (.cells #[.int .u32 bp,.slice va vn vc] 45)).alloc (.cells #[.int .i64 0,.slice none 0 0,.int .i64 0,.int .i64 0] 35)).heap.size=w.heap.size+1+1+1:=by simp
  rw [hsz] at O1 X1
  have HP1:Hid (∀W,Gr w1 W→W.heap[w1.heap.size]?=some (.cells #[.int .i64 room,.slice (some ⟨g,0,none⟩) n cp,.int .i64 pu,.int .i64 sl] 35 (0,0))→Ps w W w1.heap.size room pu sl bp va vn vc g n cp bs xs):=fun W G hr=>
   ⟨(Array.getElem?_eq_some_iff.1 T1.2.2).1,up_h G T1.2.1,up_h G T1.2.2,hr,owns_gr O1 G,(X1.of G).low (by omega),HL.out,(((((Gr.refl w).alloc _).alloc _).alloc _).trans G1).trans G⟩
  clear O1 X1 T1 G1 CP hsz
  go_wp2_with fail
  refine atWd (fun W=>Ps w W w1.heap.size room pu sl bp va vn vc g n cp bs xs) (HP1.out _ ((Gr.refl w1).alloc _) (heap_alloc_new w1 _)) ?_
  clear HP1
  generalize w1.heap.size=o at *
  clear w1
  intro W P0
  have HPs:Hid (Ps w W o room pu sl bp va vn vc g n cp bs xs):=P0
  have x1:W.cell? ⟨o,1,none⟩=some (.slice (some ⟨g,0,none⟩) n cp):=cell_of_row _ _ _ _ _ _ P0.r
  have q0:W.cell? ⟨w.heap.size+1,0,none⟩=some (.int .u32 bp):=cell_of_row _ _ _ _ _ _ P0.b
  clear P0
  apply share
  ·intro CONT
   go_region_with (first
    | (go_at_call 92;refine (AT.out _).mono ?_;rintro e w2 ⟨K,rfl,hk,G2⟩;have HG2:Hid (Gr W w2):=Gr.trans (by repeat (first|exact Gr.refl _|refine Gr.drewN ?_ _|refine Gr.drew ?_)) G2;have x2:w2.cell? ⟨o,1,none⟩=some (.slice (some ⟨g,0,none⟩) n cp):=cell_of_row _ _ _ _ _ _ (HPs.out.of HG2.out).r;clear G2)
    | (go_at_call 91;refine (IDX.out _ K _ _ g cp xs (HPs.out.of HG2.out).own (HPs.out.of HG2.out).bx hk).mono ?_;rintro e w3 ⟨rfl,G3⟩;have HP3:Hid (Ps w w3 o room pu sl bp va vn vc g n cp bs xs):=HPs.out.of (HG2.out.trans G3);clear G3))
   all_goals
    clear x2 hk HG2
    clear w2
    revert HP3
    revert w3
    revert K
    exact CONT.out
  clear HPs x1 q0 IDX AT
  clear W
  intro K W HPs
  have x1:W.cell? ⟨o,1,none⟩=some (.slice (some ⟨g,0,none⟩) n cp):=cell_of_row _ _ _ _ _ _ HPs.out.r
  go_wp2_with fail
  have q0:W.cell? ⟨w.heap.size+1,0,none⟩=some (.int .u32 bp):=cell_of_row _ _ _ _ _ _ HPs.out.b
  have q1:W.cell? ⟨w.heap.size+1,1,none⟩=some (.slice va vn vc):=cell_of_row _ _ _ _ _ _ HPs.out.b
  apply share
  ·intro CONT
   go_region_law (first
    | (refine step_append_own rfl (.tmp 35) (.tmp 38) 33 rfl (w.heap.size+1+1+1) 45 i0 _ 2 32 Tryz.underlying33 hi hz0 hz1 hz2 rfl (by decide) (.slice (some ⟨g,0,none⟩) n cp) n xs (by simp [Act.eval,Act.put]) (owns_gr HP2.out.own (by repeat (first|exact Gr.refl w2|refine Gr.drewN ?_ _|refine Gr.drew ?_|refine Gr.alloc ?_ _))) ⟨w2.heap.size,0,none⟩ 1 1 [.int .u32 bp,.slice ia iq ic] (by simp [Act.eval,Act.put]) rfl (two_cells (by simp) (by simp)) (two_ones rfl rfl) (by unfold maxLen;omega) (by omega) (by have:=HP2.out.lo;have:=(Array.getElem?_eq_some_iff.1 HP2.out.r).1;simp;omega) ?_;intro v' w' hown hgrow;obtain ⟨g',cp',rfl⟩:=own_form hown (by omega);have HQ7:Hid (Ch g w2 w'):=(Ch.ofGr' (by repeat (first|exact Gr.refl w2|refine Gr.drewN ?_ _|refine Gr.drew ?_|refine Gr.alloc ?_ _))).trans hgrow;have HO7:Hid (w'.ownsRow (w.heap.size+1+1+1) 45 2 (.slice (some ⟨g',0,none⟩) (n+1) cp') (n+1) (xs++[.int .u32 bp,.slice ia iq ic])):=hown;have y1:w'.cell? ⟨o,1,none⟩=some (.slice (some ⟨g,0,none⟩) n cp):=cell_of_row _ _ _ _ _ _ (HP2.out.row HQ7.out);have yf:w'.frozen? ⟨o,1,none⟩=false:=frozen_of_row _ _ _ _ _ (HP2.out.row HQ7.out);clear hown hgrow)
    | (go_simp;go_wp2_with (go_at_call 93;refine (CB.out _ (Gr.trans HPs.out.gr (by repeat (first|exact Gr.refl W|refine Gr.drewN ?_ _|refine Gr.drew ?_)))).mono ?_;rintro e w2 ⟨v2,rfl,I2,G2⟩;have HG2:Hid (Gr W w2):=Gr.trans (by repeat (first|exact Gr.refl W|refine Gr.drewN ?_ _|refine Gr.drew ?_)) G2;have HP2:Hid (Ps w w2 o room pu sl bp va vn vc g n cp bs xs):=HPs.out.of HG2.out;have HI2:Hid (Io w2 w.heap.size v2 b0.is):=I2.low (by have:=HPs.out.gr.size;simpa using this);obtain ⟨ia,ic,rfl⟩:=I2.shape;have x2:w2.cell? ⟨o,1,none⟩=some (.slice (some ⟨g,0,none⟩) n cp):=cell_of_row _ _ _ _ _ _ HP2.out.r;have ho2:o<w2.heap.size:=(Array.getElem?_eq_some_iff.1 HP2.out.r).1;clear I2 G2;generalize b0.is.length=iq at *)))
   all_goals
    have HX7:Bx w' w.heap.size (bs++[b0]) (xs++[.int .u32 bp,.slice ia iq ic]):=HSn.out _ _ _ _ (HP2.out.bx.to fun q c r hq=>(row_keep HP2.out.own HQ7.out hq (by decide)).trans hq.symm) (HI2.out.to fun q c r hq=>(row_keep HP2.out.own HQ7.out hq (by decide)).trans hq.symm)
    have HP7:=HP2.out.put HQ7.out HO7.out HX7 (by rw [List.length_append,HP2.out.len];rfl)
    refine atWd (fun W=>Ps w W o room pu sl bp va vn vc g' (n+1) cp' (bs++[b0]) (xs++[.int .u32 bp,.slice ia iq ic])) HP7 ?_
    clear HP7 HX7 y1 yf HQ7 HO7 x2 ho2 HI2 HP2 HG2
    clear w'
    generalize w2.heap.size=z9 at *
    clear w2
    revert cp'
    revert g'
    revert ic
    revert iq
    revert ia
    revert z9
    exact CONT.out
  clear q0 q1 x1 CB HPs
  clear W
  intro z9 ia iq ic g7 cp7 W P7
  have HP7:Hid (Ps w W o room pu sl bp va vn vc g7 (n+1) cp7 (bs++[b0]) (xs++[.int .u32 bp,.slice ia iq ic])):=P7
  have x0:W.cell? ⟨o,0,none⟩=some (.int .i64 room):=cell_of_row _ _ _ _ _ _ P7.r
  have x1:W.cell? ⟨o,1,none⟩=some (.slice (some ⟨g7,0,none⟩) (n+1) cp7):=cell_of_row _ _ _ _ _ _ P7.r
  have x2:W.cell? ⟨o,2,none⟩=some (.int .i64 pu):=cell_of_row _ _ _ _ _ _ P7.r
  have x3:W.cell? ⟨o,3,none⟩=some (.int .i64 sl):=cell_of_row _ _ _ _ _ _ P7.r
  have z0:W.cell? ⟨w.heap.size+1+1,0,none⟩=some (.int .i64 0):=cell_of_row _ _ _ _ _ _ P7.z
  have z1:W.cell? ⟨w.heap.size+1+1,1,none⟩=some (.slice none 0 0):=cell_of_row _ _ _ _ _ _ P7.z
  have z2:W.cell? ⟨w.heap.size+1+1,2,none⟩=some (.int .i64 0):=cell_of_row _ _ _ _ _ _ P7.z
  have z3:W.cell? ⟨w.heap.size+1+1,3,none⟩=some (.int .i64 0):=cell_of_row _ _ _ _ _ _ P7.z
  have zf:∀j,W.frozen? ⟨w.heap.size+1+1,j,none⟩=false:=fun j=>frozen_of_row _ _ _ _ _ P7.z
  have hne:¬w.heap.size+1+1=o:=by have:=P7.lo;omega
  have hne2:¬o=w.heap.size+1+1:=by have:=P7.lo;omega
  clear P7
  have HLm:Hid ((bs).length=n):=HL.out
  by_cases hroom:room<(((bs).length+1:Nat):Int)
  ·obtain ⟨e1,e2⟩:=(HPL.out _ HRm.out).1 hroom
   have HPLe:Hid (PL=(bs++[b0]).drop 1∧PP=wrap64 (pu+1)):=⟨e1,e2⟩
   have hroom2:room<(n:Int)+1:=by rw [HLm.out] at hroom;omega
   clear e1 e2 HPL hroom
   go_wp2_with fail
   refine (WO.out _ _ _ g7 (n+1) cp7 0 _ _ HP7.out.own HP7.out.bx HP7.out.len (by omega)).mono ?_
   rintro e w8 ⟨rfl,ys,O8,X8,Q8⟩
   rw [Nat.add_sub_cancel] at O8
   have HP8:=HP7.out.put Q8 O8 X8 (by have:=HP7.out.len;simp only [List.take_zero,List.nil_append,List.length_drop];omega)
   rw [List.take_zero,List.nil_append] at HP8
   have HP9:Hid (Ps w ((w8.setCell ⟨o,1,none⟩ (.slice (some ⟨g7,0,none⟩) n cp7)).setCell ⟨o,2,none⟩ (.int .i64 (wrap64 (pu+1)))) o room (wrap64 (pu+1)) sl bp va vn vc g7 n cp7 ((bs++[b0]).drop (0+1)) ys):=HP8.push _
   have hr8:=HP7.out.row Q8
   have y0:w8.cell? ⟨o,0,none⟩=some (.int .i64 room):=cell_of_row _ _ _ _ _ _ hr8
   have y1:w8.cell? ⟨o,1,none⟩=some (.slice (some ⟨g7,0,none⟩) (n+1) cp7):=cell_of_row _ _ _ _ _ _ hr8
   have y2:w8.cell? ⟨o,2,none⟩=some (.int .i64 pu):=cell_of_row _ _ _ _ _ _ hr8
   have y3:w8.cell? ⟨o,3,none⟩=some (.int .i64 sl):=cell_of_row _ _ _ _ _ _ hr8
   have yf:∀j,w8.frozen? ⟨o,j,none⟩=false:=fun j=>frozen_of_row _ _ _ _ _ hr8
   have hz8:w8.heap[w.heap.size+1+1]?=some (.cells #[.int .i64 0,.slice none 0 0,.int .i64 0,.int .i64 0] 35 (0,0)):=row_keep HP7.out.own Q8 HP7.out.z (by decide)
   have v0:w8.cell? ⟨w.heap.size+1+1,0,none⟩=some (.int .i64 0):=cell_of_row _ _ _ _ _ _ hz8
   have v1:w8.cell? ⟨w.heap.size+1+1,1,none⟩=some (.slice none 0 0):=cell_of_row _ _ _ _ _ _ hz8
   have v2:w8.cell? ⟨w.heap.size+1+1,2,none⟩=some (.int .i64 0):=cell_of_row _ _ _ _ _ _ hz8
   have v3:w8.cell? ⟨w.heap.size+1+1,3,none⟩=some (.int .i64 0):=cell_of_row _ _ _ _ _ _ hz8
   have vf:∀j,w8.frozen? ⟨w.heap.size+1+1,j,none⟩=false:=fun j=>frozen_of_row _ _ _ _ _ hz8
   clear O8 X8 Q8 HP8 hr8 hz8 HP7 x0 x1 x2 x3 z0 z1 z2 z3 zf WO
   go_wp2_with fail
   obtain ⟨f1,f2,f3⟩:=HP9.out.fin (by rw [Nat.zero_add,←HPLe.out.1];exact HOkQ.out)
   refine bodyPost_ret (v:=.tuple #[.agg #[.int .i64 room,.slice (some ⟨g7,0,none⟩) n cp7,.int .i64 (wrap64 (pu+1)),.int .i64 sl],.int .i64 0]) (results_ct Tryz.results97 _ _ _ _ _ (0,0) _ _ rfl rfl f1 Tryz.underlying35 rfl iCa) rfl ⟨_,n,cp7,by rw [HPLe.out.2],?_,f3⟩
   rw [HPLe.out.1]
   exact f2
  ·obtain ⟨e1,e2⟩:=(HPL.out _ HRm.out).2 (Int.not_lt.1 hroom)
   have HPLe:Hid (PL=bs++[b0]∧PP=pu):=⟨e1,e2⟩
   have hroom2:¬room<(n:Int)+1:=by rw [HLm.out] at hroom;omega
   clear e1 e2 HPL hroom WO
   go_wp2_with fail
   obtain ⟨f1,f2,f3⟩:=HP7.out.fin (by rw [←HPLe.out.1];exact HOkQ.out)
   refine bodyPost_ret (v:=.tuple #[.agg #[.int .i64 room,.slice (some ⟨g7,0,none⟩) (n+1) cp7,.int .i64 pu,.int .i64 sl],.int .i64 0]) (results_ct Tryz.results97 _ _ _ _ _ (0,0) _ _ rfl rfl f1 Tryz.underlying35 rfl iCa) rfl ⟨_,n+1,cp7,by rw [HPLe.out.2],?_,f3⟩
   rw [HPLe.out.1]
   exact f2
 ·have HRm:Hid (rmK (place bp bs 0) bs 0=bs.take j++bs.drop (j+1)):=by unfold Hid;rw [hp];have:=rm_at bs j 0;rwa [Nat.zero_add] at this
  have HLb:Hid ((bs.take j++bs.drop (j+1)).length=n-1):=by unfold Hid;rw [List.length_append,List.length_take,List.length_drop,HL.out];omega
  rw [hp] at IDX
  clear HP hp
  go_enter Tryz.func97,Tryz.ntmps97
  go_wp2_with fail
  refine (CP.out _ ((((Gr.refl w).alloc _).alloc _).alloc _)).mono ?_
  rintro e w1 ⟨g,cp,xs,rfl,O1,X1,G1⟩
  have T1:=three_of G1
  have hsz:(((w.alloc (.cells #[.int .i64 room,.slice ao n cap,.int .i64 pu,.int .i64 sl] 35)).alloc (.cells #[.int .u32 bp,.slice va vn vc] 45)).alloc (.cells #[.int .i64 0,.slice none 0 0,.int .i64 0,.int .i64 0] 35)).heap.size=w.heap.size+1+1+1:=by simp
  rw [hsz] at O1 X1
  have HP1:Hid (∀W,Gr w1 W→W.heap[w1.heap.size]?=some (.cells #[.int .i64 room,.slice (some ⟨g,0,none⟩) n cp,.int .i64 pu,.int .i64 sl] 35 (0,0))→Ps w W w1.heap.size room pu sl bp va vn vc g n cp bs xs):=fun W G hr=>
   ⟨(Array.getElem?_eq_some_iff.1 T1.2.2).1,up_h G T1.2.1,up_h G T1.2.2,hr,owns_gr O1 G,(X1.of G).low (by omega),HL.out,(((((Gr.refl w).alloc _).alloc _).alloc _).trans G1).trans G⟩
  clear O1 X1 T1 G1 CP hsz
  go_wp2_with fail
  refine atWd (fun W=>Ps w W w1.heap.size room pu sl bp va vn vc g n cp bs xs) (HP1.out _ ((Gr.refl w1).alloc _) (heap_alloc_new w1 _)) ?_
  clear HP1
  generalize w1.heap.size=o at *
  clear w1
  intro W P0
  have HPs:Hid (Ps w W o room pu sl bp va vn vc g n cp bs xs):=P0
  have x1:W.cell? ⟨o,1,none⟩=some (.slice (some ⟨g,0,none⟩) n cp):=cell_of_row _ _ _ _ _ _ P0.r
  have q0:W.cell? ⟨w.heap.size+1,0,none⟩=some (.int .u32 bp):=cell_of_row _ _ _ _ _ _ P0.b
  clear P0
  apply share
  ·intro CONT
   go_region_with (first
    | (go_at_call 92;refine (AT.out _).mono ?_;rintro e w2 ⟨K,rfl,hk,G2⟩;have HG2:Hid (Gr W w2):=Gr.trans (by repeat (first|exact Gr.refl _|refine Gr.drewN ?_ _|refine Gr.drew ?_)) G2;have x2:w2.cell? ⟨o,1,none⟩=some (.slice (some ⟨g,0,none⟩) n cp):=cell_of_row _ _ _ _ _ _ (HPs.out.of HG2.out).r;clear G2)
    | (go_at_call 91;refine (IDX.out _ K _ _ g cp xs (HPs.out.of HG2.out).own (HPs.out.of HG2.out).bx hk).mono ?_;rintro e w3 ⟨rfl,G3⟩;have HP3:Hid (Ps w w3 o room pu sl bp va vn vc g n cp bs xs):=HPs.out.of (HG2.out.trans G3);clear G3))
   all_goals
    clear x2 hk HG2
    clear w2
    revert HP3
    revert w3
    revert K
    exact CONT.out
  clear HPs x1 q0 IDX AT
  clear W
  intro K W HPs
  have x1:W.cell? ⟨o,1,none⟩=some (.slice (some ⟨g,0,none⟩) n cp):=cell_of_row _ _ _ _ _ _ HPs.out.r
  have hj0:(0:Int)≤(j:Int):=by omega
  go_wp2_with fail
  refine (WO.out _ _ _ g n cp j bs xs HPs.out.own HPs.out.bx HPs.out.len hj).mono ?_
  rintro e w5 ⟨rfl,ys,O5,X5,Q5⟩
  have HP5:Hid (Ps w (w5.setCell ⟨o,1,none⟩ (.slice (some ⟨g,0,none⟩) (n-1) cp)) o room pu sl bp va vn vc g (n-1) cp (bs.take j++bs.drop (j+1)) ys):=HPs.out.put Q5 O5 X5 HLb.out
  have hr5:=HPs.out.row Q5
  have y1:w5.cell? ⟨o,1,none⟩=some (.slice (some ⟨g,0,none⟩) n cp):=cell_of_row _ _ _ _ _ _ hr5
  have yf:w5.frozen? ⟨o,1,none⟩=false:=frozen_of_row _ _ _ _ _ hr5
  clear O5 X5 Q5 hr5 x1 HPs
  clear W
  go_wp2_with fail
  refine atWd (fun W=>Ps w W o room pu sl bp va vn vc g (n-1) cp (bs.take j++bs.drop (j+1)) ys) HP5.out ?_
  clear HP5 y1 yf
  clear w5
  generalize bs.take j++bs.drop (j+1)=L1 at *
  have hmn:n-1≤n:=by omega
  generalize n-1=m at *
  intro W P0
  have HPs:Hid (Ps w W o room pu sl bp va vn vc g m cp L1 ys):=P0
  have x1:W.cell? ⟨o,1,none⟩=some (.slice (some ⟨g,0,none⟩) m cp):=cell_of_row _ _ _ _ _ _ P0.r
  clear P0
  have q0:W.cell? ⟨w.heap.size+1,0,none⟩=some (.int .u32 bp):=cell_of_row _ _ _ _ _ _ HPs.out.b
  have q1:W.cell? ⟨w.heap.size+1,1,none⟩=some (.slice va vn vc):=cell_of_row _ _ _ _ _ _ HPs.out.b
  apply share
  ·intro CONT
   go_region_law (first
    | (refine step_append_own rfl (.tmp 35) (.tmp 38) 33 rfl (w.heap.size+1+1+1) 45 i0 _ 2 32 Tryz.underlying33 hi hz0 hz1 hz2 rfl (by decide) (.slice (some ⟨g,0,none⟩) m cp) m ys (by simp [Act.eval,Act.put]) (owns_gr HP2.out.own (by repeat (first|exact Gr.refl w2|refine Gr.drewN ?_ _|refine Gr.drew ?_|refine Gr.alloc ?_ _))) ⟨w2.heap.size,0,none⟩ 1 1 [.int .u32 bp,.slice ia iq ic] (by simp [Act.eval,Act.put]) rfl (two_cells (by simp) (by simp)) (two_ones rfl rfl) (by unfold maxLen;omega) (by omega) (by have:=HP2.out.lo;have:=(Array.getElem?_eq_some_iff.1 HP2.out.r).1;simp;omega) ?_;intro v' w' hown hgrow;obtain ⟨g',cp',rfl⟩:=own_form hown (by omega);have HQ7:Hid (Ch g w2 w'):=(Ch.ofGr' (by repeat (first|exact Gr.refl w2|refine Gr.drewN ?_ _|refine Gr.drew ?_|refine Gr.alloc ?_ _))).trans hgrow;have HO7:Hid (w'.ownsRow (w.heap.size+1+1+1) 45 2 (.slice (some ⟨g',0,none⟩) (m+1) cp') (m+1) (ys++[.int .u32 bp,.slice ia iq ic])):=hown;have y1:w'.cell? ⟨o,1,none⟩=some (.slice (some ⟨g,0,none⟩) m cp):=cell_of_row _ _ _ _ _ _ (HP2.out.row HQ7.out);have yf:w'.frozen? ⟨o,1,none⟩=false:=frozen_of_row _ _ _ _ _ (HP2.out.row HQ7.out);clear hown hgrow)
    | (go_simp;go_wp2_with (go_at_call 93;refine (CB.out _ (Gr.trans HPs.out.gr (by repeat (first|exact Gr.refl W|refine Gr.drewN ?_ _|refine Gr.drew ?_)))).mono ?_;rintro e w2 ⟨v2,rfl,I2,G2⟩;have HG2:Hid (Gr W w2):=Gr.trans (by repeat (first|exact Gr.refl W|refine Gr.drewN ?_ _|refine Gr.drew ?_)) G2;have HP2:Hid (Ps w w2 o room pu sl bp va vn vc g m cp L1 ys):=HPs.out.of HG2.out;have HI2:Hid (Io w2 w.heap.size v2 b0.is):=I2.low (by have:=HPs.out.gr.size;simpa using this);obtain ⟨ia,ic,rfl⟩:=I2.shape;have x2:w2.cell? ⟨o,1,none⟩=some (.slice (some ⟨g,0,none⟩) m cp):=cell_of_row _ _ _ _ _ _ HP2.out.r;have ho2:o<w2.heap.size:=(Array.getElem?_eq_some_iff.1 HP2.out.r).1;clear I2 G2;generalize b0.is.length=iq at *)))
   all_goals
    have HX7:Bx w' w.heap.size (L1++[b0]) (ys++[.int .u32 bp,.slice ia iq ic]):=HSn.out _ _ _ _ (HP2.out.bx.to fun q c r hq=>(row_keep HP2.out.own HQ7.out hq (by decide)).trans hq.symm) (HI2.out.to fun q c r hq=>(row_keep HP2.out.own HQ7.out hq (by decide)).trans hq.symm)
    have HP7:=HP2.out.put HQ7.out HO7.out HX7 (by rw [List.length_append,HP2.out.len];rfl)
    refine atWd (fun W=>Ps w W o room pu sl bp va vn vc g' (m+1) cp' (L1++[b0]) (ys++[.int .u32 bp,.slice ia iq ic])) HP7 ?_
    clear HP7 HX7 y1 yf HQ7 HO7 x2 ho2 HI2 HP2 HG2
    clear w'
    generalize w2.heap.size=z9 at *
    clear w2
    revert cp'
    revert g'
    revert ic
    revert iq
    revert ia
    revert z9
    exact CONT.out
  clear q0 q1 x1 CB HPs
  clear W
  intro z9 ia iq ic g7 cp7 W P7
  have HP7:Hid (Ps w W o room pu sl bp va vn vc g7 (m+1) cp7 (L1++[b0]) (ys++[.int .u32 bp,.slice ia iq ic])):=P7
  have x0:W.cell? ⟨o,0,none⟩=some (.int .i64 room):=cell_of_row _ _ _ _ _ _ P7.r
  have x1:W.cell? ⟨o,1,none⟩=some (.slice (some ⟨g7,0,none⟩) (m+1) cp7):=cell_of_row _ _ _ _ _ _ P7.r
  have x2:W.cell? ⟨o,2,none⟩=some (.int .i64 pu):=cell_of_row _ _ _ _ _ _ P7.r
  have x3:W.cell? ⟨o,3,none⟩=some (.int .i64 sl):=cell_of_row _ _ _ _ _ _ P7.r
  have z0:W.cell? ⟨w.heap.size+1+1,0,none⟩=some (.int .i64 0):=cell_of_row _ _ _ _ _ _ P7.z
  have z1:W.cell? ⟨w.heap.size+1+1,1,none⟩=some (.slice none 0 0):=cell_of_row _ _ _ _ _ _ P7.z
  have z2:W.cell? ⟨w.heap.size+1+1,2,none⟩=some (.int .i64 0):=cell_of_row _ _ _ _ _ _ P7.z
  have z3:W.cell? ⟨w.heap.size+1+1,3,none⟩=some (.int .i64 0):=cell_of_row _ _ _ _ _ _ P7.z
  have zf:∀j,W.frozen? ⟨w.heap.size+1+1,j,none⟩=false:=fun j=>frozen_of_row _ _ _ _ _ P7.z
  have hne:¬w.heap.size+1+1=o:=by have:=P7.lo;omega
  have hne2:¬o=w.heap.size+1+1:=by have:=P7.lo;omega
  clear P7
  have HLm:Hid ((L1).length=m):=HLb.out
  by_cases hroom:room<(((L1).length+1:Nat):Int)
  ·obtain ⟨e1,e2⟩:=(HPL.out _ HRm.out).1 hroom
   have HPLe:Hid (PL=(L1++[b0]).drop 1∧PP=wrap64 (pu+1)):=⟨e1,e2⟩
   have hroom2:room<(m:Int)+1:=by rw [HLm.out] at hroom;omega
   clear e1 e2 HPL hroom
   go_wp2_with fail
   refine (WO.out _ _ _ g7 (m+1) cp7 0 _ _ HP7.out.own HP7.out.bx HP7.out.len (by omega)).mono ?_
   rintro e w8 ⟨rfl,ys,O8,X8,Q8⟩
   rw [Nat.add_sub_cancel] at O8
   have HP8:=HP7.out.put Q8 O8 X8 (by have:=HP7.out.len;simp only [List.take_zero,List.nil_append,List.length_drop];omega)
   rw [List.take_zero,List.nil_append] at HP8
   have HP9:Hid (Ps w ((w8.setCell ⟨o,1,none⟩ (.slice (some ⟨g7,0,none⟩) m cp7)).setCell ⟨o,2,none⟩ (.int .i64 (wrap64 (pu+1)))) o room (wrap64 (pu+1)) sl bp va vn vc g7 m cp7 ((L1++[b0]).drop (0+1)) ys):=HP8.push _
   have hr8:=HP7.out.row Q8
   have y0:w8.cell? ⟨o,0,none⟩=some (.int .i64 room):=cell_of_row _ _ _ _ _ _ hr8
   have y1:w8.cell? ⟨o,1,none⟩=some (.slice (some ⟨g7,0,none⟩) (m+1) cp7):=cell_of_row _ _ _ _ _ _ hr8
   have y2:w8.cell? ⟨o,2,none⟩=some (.int .i64 pu):=cell_of_row _ _ _ _ _ _ hr8
   have y3:w8.cell? ⟨o,3,none⟩=some (.int .i64 sl):=cell_of_row _ _ _ _ _ _ hr8
   have yf:∀j,w8.frozen? ⟨o,j,none⟩=false:=fun j=>frozen_of_row _ _ _ _ _ hr8
   have hz8:w8.heap[w.heap.size+1+1]?=some (.cells #[.int .i64 0,.slice none 0 0,.int .i64 0,.int .i64 0] 35 (0,0)):=row_keep HP7.out.own Q8 HP7.out.z (by decide)
   have v0:w8.cell? ⟨w.heap.size+1+1,0,none⟩=some (.int .i64 0):=cell_of_row _ _ _ _ _ _ hz8
   have v1:w8.cell? ⟨w.heap.size+1+1,1,none⟩=some (.slice none 0 0):=cell_of_row _ _ _ _ _ _ hz8
   have v2:w8.cell? ⟨w.heap.size+1+1,2,none⟩=some (.int .i64 0):=cell_of_row _ _ _ _ _ _ hz8
   have v3:w8.cell? ⟨w.heap.size+1+1,3,none⟩=some (.int .i64 0):=cell_of_row _ _ _ _ _ _ hz8
   have vf:∀j,w8.frozen? ⟨w.heap.size+1+1,j,none⟩=false:=fun j=>frozen_of_row _ _ _ _ _ hz8
   clear O8 X8 Q8 HP8 hr8 hz8 HP7 x0 x1 x2 x3 z0 z1 z2 z3 zf WO
   go_wp2_with fail
   obtain ⟨f1,f2,f3⟩:=HP9.out.fin (by rw [Nat.zero_add,←HPLe.out.1];exact HOkQ.out)
   refine bodyPost_ret (v:=.tuple #[.agg #[.int .i64 room,.slice (some ⟨g7,0,none⟩) m cp7,.int .i64 (wrap64 (pu+1)),.int .i64 sl],.int .i64 0]) (results_ct Tryz.results97 _ _ _ _ _ (0,0) _ _ rfl rfl f1 Tryz.underlying35 rfl iCa) rfl ⟨_,m,cp7,by rw [HPLe.out.2],?_,f3⟩
   rw [HPLe.out.1]
   exact f2
  ·obtain ⟨e1,e2⟩:=(HPL.out _ HRm.out).2 (Int.not_lt.1 hroom)
   have HPLe:Hid (PL=L1++[b0]∧PP=pu):=⟨e1,e2⟩
   have hroom2:¬room<(m:Int)+1:=by rw [HLm.out] at hroom;omega
   clear e1 e2 HPL hroom WO
   go_wp2_with fail
   obtain ⟨f1,f2,f3⟩:=HP7.out.fin (by rw [←HPLe.out.1];exact HOkQ.out)
   refine bodyPost_ret (v:=.tuple #[.agg #[.int .i64 room,.slice (some ⟨g7,0,none⟩) (m+1) cp7,.int .i64 pu,.int .i64 sl],.int .i64 0]) (results_ct Tryz.results97 _ _ _ _ _ (0,0) _ _ rfl rfl f1 Tryz.underlying35 rfl iCa) rfl ⟨_,m+1,cp7,by rw [HPLe.out.2],?_,f3⟩
   rw [HPLe.out.1]
   exact f2
end Go.Proofs.YtchllaeembmioaaGreatDoor.Kc
