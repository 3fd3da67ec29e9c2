/-
  Eb, Mb8: texts of ours that lie in one file.
-/
import Derived.Test.YtchllaeembmioaaGreatDoorK22
import Derived.Test.YtchllaeembmioaaGreatDoorK19
import Derived.Test.YtchllaeembmioaaGreatDoorK24
import Derived.Test.YtchllaeembmioaaGreatDoorK18
set_option linter.unusedVariables false
set_option linter.unusedSimpArgs false
set_option maxHeartbeats 8000000
set_option maxRecDepth 100000
namespace Go.Proofs.YtchllaeembmioaaGreatDoor.En
open Go.ChangeShapes Go.WideShapes Go.ChangeAt Go.RowKit Mm Hh Hc Mc

theorem yieldsIf_lookup {P:Program}{ops:Array Oper}{S:World→Prop}{o:Oper}{a:Act}(hw:Region.wanted o (yielded ops a.tmps)=true)(t:TypeId)(m x:Operand)(ho:o.op=.lookup t m x false)(v:Value)(h:∀W,S W→(Instr.lookup t (a.eval m) (a.eval x) false).run P W=.ok v W):YieldsIf P ops S o v a:=
 .inl ⟨hw,fun w hS=>by
  unfold execOp
  simp only [ho,Sem.run_bind,h w hS,Result.andThen_ok]
  rfl⟩
theorem zMs (w:World):(zeroValue 117).run Tryz.prog w=.ok (.slice none 0 0) w:=by kernel_rfl
theorem look_held {w:World}{mb mn:Nat}{D:DataW Value}(h:w.ownsMap Tryz.prog 42 Rh mb mn D){pc:Int}(h0:0≤pc)(h1:pc<4294967296){v:Value}(hv:∀z,D.atKey (.int .u32 pc) z=.held v):(Instr.lookup 64 (.map (some mb)) (.int .u32 pc) false).run Tryz.prog w=.ok v w:=by
 obtain ⟨u,ps,hrun,hu⟩:=h.lookup kU Tryz.underlying64 (zMs w) (zd:=.held (.slice none 0 0)) (zp:=[]) rfl (keyU h0 h1)
 rw [hv] at hu
 have:some (DataW.held u,([]:List MemPlace))=some (.held v,ps):=hu
 injection this with this
 injection this with this
 injection this with this
 rw [hrun,this]
theorem one_bl (p:Int)(a:Option Addr)(n c:Nat):(#[.int .u32 p,.slice a n c]:Array Value).all (·.oneCell')=true:=by
 refine all_oneCell_toArray ?_
 intro v hv
 simp only [List.mem_cons,List.not_mem_nil,or_false] at hv
 rcases hv with rfl|rfl<;>rfl
section
variable {lo : Nat} {w : World} {base g gh hc : Nat} {room : Int} {M O : Value} {a : Option Addr} {n cap mb mn : Nat} {D : DataW Value} {s : Sh} {L : List Kc.Bv} {pu sl : Int}
theorem blockAt_yes (E:Ew lo w base g room M gh hc O a n cap mb mn D s L pu sl)(hn:n*32≤140737488351232){pc:Int}(h0:0≤pc)(h1:pc<4294967296)(hp:0≤Kc.place pc L 0)(hm:Kc.fnd pc L∈L)(hpc:(Kc.fnd pc L).pc=pc):
  Calls Tryz.prog 52 #[.pointer (some ⟨g,0,none⟩),.int .u32 pc] w fun e w'=>∃ba bc ca cn cc,e=.returned (.tuple #[.agg #[.int .u32 pc,.slice ba (Kc.fnd pc L).is.length bc],.slice ca cn cc])∧Ts.Ct w' ca cn (Ts.codeV pc (Kc.fnd pc L).is 0)∧Gr w w':=by
 have HE:Hid (Ew lo w base g room M gh hc O a n cap mb mn D s L pu sl):=E
 obtain ⟨ca,cn,cc,hat,hct⟩:=E.code _ hm
 rw [hpc] at hat hct
 have HLk:Hid (∀W:World,W.ownsMap Tryz.prog 42 Rh mb mn D→(Instr.lookup 64 (.map (some mb)) (.int .u32 pc) false).run Tryz.prog W=.ok (.slice ca cn cc) W):=fun W h=>look_held h h0 h1 hat
 have HCt:Hid (Ts.Ct w ca cn (Ts.codeV pc (Kc.fnd pc L).is 0)):=hct
 have HFd:Hid (∀W:World,Gr w W→Calls Tryz.prog 70 #[.agg #[.int .i64 room,.slice a n cap,.int .i64 pu,.int .i64 sl],.int .u32 pc] W fun e w'=>∃sa sn sc,e=.returned (.tuple #[.agg #[.int .u32 pc,.slice sa sn sc],.bool true])∧(Kc.fnd pc L).is.length=sn∧Gr W w'):=fun W G=>by
  have:=Kc.Find_any cap (E.bt.of G).bs hn room pu sl pc
  rw [decide_eq_true hp] at this
  refine this.mono ?_
  rintro e w' ⟨x,y,rfl,⟨hx,_,sa,sn,sc,hy,I,_⟩,G'⟩
  subst hx hy
  rw [hpc]
  exact ⟨sa,sn,sc,rfl,I.len,G'⟩
 have g4:=E.c4
 have g5:=E.c5
 have g6:=E.c6
 have g7:=E.c7
 have hgl:g<w.heap.size:=E.bw.lt
 clear E hp hm hpc hat hct hn h0 h1
 generalize Kc.fnd pc L=fb at *
 go_enter Tryz.func52,Tryz.ntmps52
 go_wp2_with fail
 refine (HFd.out _ ((Gr.refl _).alloc _)).mono ?_
 rintro e w1 ⟨sa,sn,sc,rfl,hsn,G1⟩
 have HSN:Hid (fb.is.length=sn):=hsn
 have HG1:Hid (Gr w w1):=((Gr.refl _).alloc _).trans G1
 have HR1:Hid (w1.heap[w.heap.size]?=some (.cells #[.int .u32 0,.slice none 0 0] 45 (0,0))):=Kc.up_h G1 (heap_alloc_new w _)
 clear G1 hsn HFd g4 g5 g6 g7
 go_wp2_with fail
 obtain ⟨o,ho⟩:∃o:Nat,o=w1.heap.size:=⟨_,rfl⟩
 refine at_world (fun W=>W.heap[o]?=some (.cells #[.int .u32 pc,.slice sa sn sc] 45 (0,0))∧W.heap[w.heap.size]?=some (.cells #[.int .u32 0,.slice none 0 0] 45 (0,0))∧Gr w W) ?_ ?_
 ·have hlt:w.heap.size<w1.heap.size:=(Array.getElem?_eq_some_iff.1 HR1.out).1
  subst ho
  exact ⟨heap_alloc_new w1 _,Kc.up_h ((Gr.refl _).alloc _) HR1.out,HG1.out.alloc _⟩
 rw [←ho]
 have hol:w.heap.size<o:=by rw [ho];exact (Array.getElem?_eq_some_iff.1 HR1.out).1
 clear ho HR1 HG1
 clear w1
 rintro W ⟨K0,K1,GW⟩
 have HGW:Hid (Gr w W):=GW
 have HK1:Hid (W.heap[w.heap.size]?=some (.cells #[.int .u32 0,.slice none 0 0] 45 (0,0))):=K1
 have HS:Hid ((fun W=>W.cell? ⟨o,0,none⟩=some (.int .u32 pc)∧W.cell? ⟨o,1,none⟩=some (.slice sa sn sc)∧W.cell? ⟨g,8,none⟩=some (.map (some mb))∧W.ownsMap Tryz.prog 42 Rh mb mn D) W):=⟨cell_of_row _ _ _ _ _ _ K0,cell_of_row _ _ _ _ _ _ K0,(HE.out.of GW).c8,(HE.out.of GW).map⟩
 have HK0:Hid (W.heap[o]?=some (.cells #[.int .u32 pc,.slice sa sn sc] 45 (0,0))):=K0
 clear K0 K1 GW
 refine wp_region_held_drew (S:=fun W=>W.cell? ⟨o,0,none⟩=some (.int .u32 pc)∧W.cell? ⟨o,1,none⟩=some (.slice sa sn sc)∧W.cell? ⟨g,8,none⟩=some (.map (some mb))∧W.ownsMap Tryz.prog 42 Rh mb mn D) (by kernel_rfl) ?_ (fun hHeld=>?_)
 ·exact HS.out
 have HS0:Hid _:=hHeld
 clear hHeld
 refine wpAnyH_take (i:=0) (v:=.agg #[.int .u32 pc,.slice sa sn sc]) rfl (by kernel_rfl) (by kernel_rfl) (by kernel_rfl) (fun _ _ _ h=>h) (Or.inl ⟨by rfl,fun W hW=>by obtain ⟨y0,y1,y2,y3⟩:=hW;go_simp⟩) HS0.out ?_
 simp only [List.getElem_toArray,List.getElem_cons_succ,List.getElem_cons_zero,Act.put,List.setIfInBounds_toArray,List.set_cons_zero,List.set_cons_succ]
 refine wpAnyH_take (i:=1) (v:=.pointer (some ⟨g,0,none⟩)) rfl (by kernel_rfl) (by kernel_rfl) (by kernel_rfl) (fun _ _ _ h=>h) (Or.inl ⟨by rfl,fun W hW=>by obtain ⟨y0,y1,y2,y3⟩:=hW;go_simp⟩) HS0.out ?_
 simp only [List.getElem_toArray,List.getElem_cons_succ,List.getElem_cons_zero,Act.put,List.setIfInBounds_toArray,List.set_cons_zero,List.set_cons_succ]
 refine wpAnyH_take (i:=2) (v:=.pointer (some ⟨g,0,none⟩)) rfl (by kernel_rfl) (by kernel_rfl) (by kernel_rfl) (fun _ _ _ h=>h) (Or.inl ⟨by rfl,fun W hW=>by obtain ⟨y0,y1,y2,y3⟩:=hW;go_simp⟩) HS0.out ?_
 simp only [List.getElem_toArray,List.getElem_cons_succ,List.getElem_cons_zero,Act.put,List.setIfInBounds_toArray,List.set_cons_zero,List.set_cons_succ]
 refine wpAnyH_take (i:=3) (v:=.pointer (some ⟨g,8,none⟩)) rfl (by kernel_rfl) (by kernel_rfl) (by kernel_rfl) (fun _ _ _ h=>h) (Or.inl ⟨by rfl,fun W hW=>by obtain ⟨y0,y1,y2,y3⟩:=hW;go_simp⟩) HS0.out ?_
 simp only [List.getElem_toArray,List.getElem_cons_succ,List.getElem_cons_zero,Act.put,List.setIfInBounds_toArray,List.set_cons_zero,List.set_cons_succ]
 refine wpAnyH_take (i:=4) (v:=.map (some mb)) rfl (by kernel_rfl) (by kernel_rfl) (by kernel_rfl) (fun _ _ _ h=>h) (Or.inl ⟨by rfl,fun W hW=>by obtain ⟨y0,y1,y2,y3⟩:=hW;go_simp⟩) HS0.out ?_
 simp only [List.getElem_toArray,List.getElem_cons_succ,List.getElem_cons_zero,Act.put,List.setIfInBounds_toArray,List.set_cons_zero,List.set_cons_succ]
 refine wpAnyH_take (i:=5) (v:=.int .u32 pc) rfl (by kernel_rfl) (by kernel_rfl) (by kernel_rfl) (fun _ _ _ h=>h) (Or.inl ⟨by rfl,fun W hW=>by obtain ⟨y0,y1,y2,y3⟩:=hW;go_simp⟩) HS0.out ?_
 simp only [List.getElem_toArray,List.getElem_cons_succ,List.getElem_cons_zero,Act.put,List.setIfInBounds_toArray,List.set_cons_zero,List.set_cons_succ]
 refine wpAnyH_take (i:=6) (v:=.slice ca cn cc) rfl (by kernel_rfl) (by kernel_rfl) (by kernel_rfl) (fun _ _ _ h=>h) (yieldsIf_lookup (by rfl) 64 (.tmp 24) (.tmp 25) rfl _ (fun W hW=>by simpa [Act.eval] using HLk.out W hW.2.2.2)) HS0.out ?_
 simp only [List.getElem_toArray,List.getElem_cons_succ,List.getElem_cons_zero,Act.put,List.setIfInBounds_toArray,List.set_cons_zero,List.set_cons_succ]
 refine held_store_row (i:=7) (by kernel_rfl) rfl rfl 45 (.tmp 4) (.tmp 20) rfl w.heap.size #[.int .u32 pc,.slice sa sn sc] (by simp [Act.eval]) (by simp [Act.eval]) 45 _ HK1.out Bk.iB rfl (one_bl _ _ _ _) ?hs ?_
 case hs=>
  have e0:(W.drew.setRow w.heap.size #[.int .u32 pc,.slice sa sn sc]).heap[o]?=some (.cells #[.int .u32 pc,.slice sa sn sc] 45 (0,0)):=(setRow_other _ _ _ _ (by omega)).trans HK0.out
  have EW:=(HE.out.of (gr_setRow HGW.out (Nat.le_refl _) #[.int .u32 pc,.slice sa sn sc]))
  exact ⟨cell_of_row _ _ _ _ _ _ e0,cell_of_row _ _ _ _ _ _ e0,EW.c8,EW.map⟩
 have HSf:Hid ((fun W=>W.cell? ⟨o,0,none⟩=some (.int .u32 pc)∧W.cell? ⟨o,1,none⟩=some (.slice sa sn sc)∧W.cell? ⟨g,8,none⟩=some (.map (some mb))∧W.ownsMap Tryz.prog 42 Rh mb mn D) (W.drew.setRow w.heap.size #[.int .u32 pc,.slice sa sn sc])):=by
  have e0:(W.drew.setRow w.heap.size #[.int .u32 pc,.slice sa sn sc]).heap[o]?=some (.cells #[.int .u32 pc,.slice sa sn sc] 45 (0,0)):=(setRow_other _ _ _ _ (by omega)).trans HK0.out
  have EW:=(HE.out.of (gr_setRow HGW.out (Nat.le_refl _) #[.int .u32 pc,.slice sa sn sc]))
  exact ⟨cell_of_row _ _ _ _ _ _ e0,cell_of_row _ _ _ _ _ _ e0,EW.c8,EW.map⟩
 refine wpAnyH_take (i:=8) (v:=.slice ca cn cc) rfl (by kernel_rfl) (by kernel_rfl) (by kernel_rfl) (fun _ _ _ h=>h) (Or.inl ⟨by rfl,fun W hW=>by obtain ⟨y0,y1,y2,y3⟩:=hW;go_simp⟩) HSf.out ?_
 simp only [List.getElem_toArray,List.getElem_cons_succ,List.getElem_cons_zero,Act.put,List.setIfInBounds_toArray,List.set_cons_zero,List.set_cons_succ]
 refine wpAnyH_done (by kernel_rfl) ?_ _
 go_wp2_with fail
 refine bodyPost_ret (v:=.tuple #[.agg #[.int .u32 pc,.slice sa sn sc],.slice ca cn cc]) (Hr.results_cell_tmp' Tryz.results52 _ _ _ _ _ (0,0) _ _ rfl rfl (setRow_heap _ _ _ _ _ (0,0) HK1.out) Tryz.underlying45 rfl Bk.iB) rfl ?_
 have GF:Gr w (W.drew.setRow w.heap.size #[.int .u32 pc,.slice sa sn sc]):=gr_setRow (HGW.out.drew) (Nat.le_refl _) _
 exact ⟨sa,sc,ca,cn,⟨cc,by rw [HSN.out]⟩,HCt.out.of GF,GF⟩
theorem blockAt_no (E:Ew lo w base g room M gh hc O a n cap mb mn D s L pu sl)(hn:n*32≤140737488351232)(hl:L.length≤64)(hr0:0≤room)(hr1:room≤64)(hmn:mn≤1000000){pc:Int}(h0:0≤pc)(h1:pc<4294967296)(hp:Kc.place pc L 0 = -1)(hml:s.m.length≤4096)(T:Dw.Tab w)(Q:Ts.Tq w):
  Calls Tryz.prog 52 #[.pointer (some ⟨g,0,none⟩),.int .u32 pc] w fun e w'=>∃ba bc ca cn cc,e=.returned (.tuple #[.agg #[.int .u32 pc,.slice ba (Bk.blk s.m pc 16 0).length bc],.slice ca cn cc])∧Ts.Ct w' ca cn (Ts.codeV pc ((Bk.blk s.m pc 16 0).map Ts.ivX) 0)∧
   ((Bk.blk s.m pc 16 0).length=0→Ev 0 w' base g room s L pu sl mn)∧(0<(Bk.blk s.m pc 16 0).length→Ev 0 w' base g room s (Kc.putL room L ⟨pc,(Bk.blk s.m pc 16 0).map Ts.ivX⟩) (Kc.putP room pu L ⟨pc,(Bk.blk s.m pc 16 0).map Ts.ivX⟩) sl (mn+1))∧Fm base w w':=by
 obtain ⟨ma,mc,rfl,MM⟩:=E.bw.mem.mem
 have HE:Hid (Ew lo w base g room (.slice ma s.m.length mc) gh hc O a n cap mb mn D s L pu sl):=E
 have HFd:Hid (∀W:World,Gr w W→Calls Tryz.prog 70 #[.agg #[.int .i64 room,.slice a n cap,.int .i64 pu,.int .i64 sl],.int .u32 pc] W fun e w'=>∃p0 sa sn sc,e=.returned (.tuple #[.agg #[.int .u32 p0,.slice sa sn sc],.bool false])∧Gr W w'):=fun W G=>by
  have:=Kc.Find_any cap (E.bt.of G).bs hn room pu sl pc
  rw [decide_eq_false (by omega)] at this
  refine this.mono ?_
  rintro e w' ⟨x,y,rfl,⟨hx,_,sa,sn,sc,hy,_,_⟩,G'⟩
  subst hx hy
  exact ⟨_,sa,sn,sc,rfl,G'⟩
 have h16:(Bk.blk s.m pc 16 0).length≤16:=(Ts.blk_facts s.m pc 16 0).1
 have HBM:Hid (∀W:World,Gr w W→Calls Tryz.prog 71 #[.slice ma s.m.length mc,.int .u32 pc] W fun e w'=>∃va vc,e=.returned (.agg #[.int .u32 pc,.slice va (Bk.blk s.m pc 16 0).length vc])∧w'.ownsRow W.heap.size 77 5 (.slice va (Bk.blk s.m pc 16 0).length vc) (Bk.blk s.m pc 16 0).length (Bk.blC (Bk.blk s.m pc 16 0))∧Gr W w'):=fun W G=>by
  have:=Bk.Make_yes mc pc (MM.of G) (Ts.tabM T W G) hml h0 h1
  have e1:Bk.bkP s.m.length pc=pc:=if_neg (by omega)
  have e2:Bk.bkX s.m.length s.m pc=Bk.blk s.m pc 16 0:=if_neg (by omega)
  rw [e1,e2] at this
  refine this.mono ?_
  rintro e w' ⟨v,rfl,OW,G'⟩
  obtain ⟨va,vc,rfl⟩:=Bk.owns_form OW
  exact ⟨va,vc,rfl,OW,G'⟩
 have HTM:Hid (∀(W:World) (va:Option Addr) (vc b:Nat),Gr w W→W.ownsRow b 77 5 (.slice va (Bk.blk s.m pc 16 0).length vc) (Bk.blk s.m pc 16 0).length (Bk.blC (Bk.blk s.m pc 16 0))→Calls Tryz.prog 72 #[.agg #[.int .u32 pc,.slice va (Bk.blk s.m pc 16 0).length vc]] W fun e w'=>∃ca cn cc,e=.returned (.slice ca cn cc)∧Ts.Ct w' ca cn (Ts.codeV pc ((Bk.blk s.m pc 16 0).map Ts.ivX) 0)∧Gr W w'):=fun W va vc b G OW=>Ts.Make_ctw pc vc OW (Ts.blk_words s.m pc) (Ts.tabM T W G) (Q.of G) h16
 have HKp:Hid (∀(W:World) (va:Option Addr) (vc b:Nat) (ca:Option Addr) (cn cc:Nat),Gr w W→W.ownsRow b 77 5 (.slice va (Bk.blk s.m pc 16 0).length vc) (Bk.blk s.m pc 16 0).length (Bk.blC (Bk.blk s.m pc 16 0))→Ts.Ct W ca cn (Ts.codeV pc ((Bk.blk s.m pc 16 0).map Ts.ivX) 0)→
   Calls Tryz.prog 73 #[.pointer (some ⟨g,0,none⟩),.agg #[.int .u32 pc,.slice va (Bk.blk s.m pc 16 0).length vc],.slice ca cn cc] W fun e w'=>e=.returned (.tuple #[])∧(((Bk.blk s.m pc 16 0).length=0→Gr W w')∧(0<(Bk.blk s.m pc 16 0).length→Ev W.heap.size w' base g room s (Kc.putL room L ⟨pc,(Bk.blk s.m pc 16 0).map Ts.ivX⟩) (Kc.putP room pu L ⟨pc,(Bk.blk s.m pc 16 0).map Ts.ivX⟩) sl (mn+1)))∧Fm base W w'):=fun W va vc b ca cn cc G OW C=>by
  by_cases hz:(Bk.blk s.m pc 16 0).length=0
  ·refine (keep_gen (E.of G) (by omega) hmn h0 h1 va _ vc ca cn cc 0 0 0 2 [] (fun h=>absurd h (by omega)) (fun V GV=>(Kc.PutBad V room pu sl pc a va n cap _ vc (.inl (by omega)) (by omega)).mono fun e w' ⟨h1,h2⟩=>⟨none,0,0,h1,⟨Kc.bt_nil _ _ _,Nat.le_refl _⟩,h2⟩) (fun h=>absurd h (by omega)) (by simp)).mono ?_
   rintro e w' ⟨rfl,k1,_,k3⟩
   exact ⟨rfl,⟨fun _=>k1 (by omega),fun h=>absurd h (by omega)⟩,k3⟩
  ·have I:=Ts.is_own OW (Ts.blk_words s.m pc)
   refine (keep_gen (E.of G) (by omega) hmn h0 h1 va _ vc ca cn cc room (Kc.putP room pu L ⟨pc,(Bk.blk s.m pc 16 0).map Ts.ivX⟩) sl 0 (Kc.putL room L ⟨pc,(Bk.blk s.m pc 16 0).map Ts.ivX⟩) (fun _=>rfl) (fun V GV=>Kc.PutT cap ((E.of G).bt.of GV).bs hn room pu sl (b0:=⟨pc,(Bk.blk s.m pc 16 0).map Ts.ivX⟩) ⟨rfl,⟨h0,h1⟩,va,_,vc,rfl,I.of GV,by omega⟩ (by omega) h16) (fun _ b hb=>?_) ?_).mono ?_
   ·rcases put_mem (b:=⟨pc,(Bk.blk s.m pc 16 0).map Ts.ivX⟩) hp hb with hb|rfl
    ·refine .inl ⟨hb,fun e=>?_⟩
     obtain ⟨i,hi⟩:=List.mem_iff_getElem?.1 hb
     have:=pl_in hi
     rw [e,hp] at this
     omega
    ·exact .inr ⟨rfl,C⟩
   ·rw [(put_none (room:=room) (pu:=pu) (b:=⟨pc,(Bk.blk s.m pc 16 0).map Ts.ivX⟩) hp).1]
    split
    ·rw [List.length_drop,List.length_append,List.length_singleton]
     omega
    ·rw [List.length_append,List.length_singleton]
     omega
   ·rintro e w' ⟨rfl,_,k2,k3⟩
    exact ⟨rfl,⟨fun h=>absurd h hz,fun _=>k2 rfl⟩,k3⟩
 have g0:=E.bw.c0
 have g4:=E.c4
 have g5:=E.c5
 have g6:=E.c6
 have g7:=E.c7
 have hgl:g<w.heap.size:=E.bw.lt
 have hbl:base≤w.heap.size:=E.base_le
 clear E MM hn hp hml T Q h16 hmn hl hr0 hr1 h0 h1
 generalize (Bk.blk s.m pc 16 0).map Ts.ivX=IS at *
 generalize Bk.blk s.m pc 16 0=xs at *
 generalize s.m.length=mln at *
 go_enter Tryz.func52,Tryz.ntmps52
 go_wp2_with fail
 refine (HFd.out _ ((Gr.refl _).alloc _)).mono ?_
 rintro e w1 ⟨p0,sa,sn,sc,rfl,G1⟩
 have HG1:Hid (Gr w w1):=((Gr.refl _).alloc _).trans G1
 have HR1:Hid (w1.heap[w.heap.size]?=some (.cells #[.int .u32 0,.slice none 0 0] 45 (0,0))):=Kc.up_h G1 (heap_alloc_new w _)
 have q0:∀o,(w1.alloc o).cell? ⟨g,0,none⟩=some (.slice ma mln mc):=fun o=>((HG1.out.alloc o).cell _ (by exact hgl)).trans g0
 have hlt1:w.heap.size<w1.heap.size:=(Array.getElem?_eq_some_iff.1 HR1.out).1
 clear G1 HFd g0 g4 g5 g6 g7
 go_wp2_with fail
 refine (HBM.out _ (HG1.out.alloc _)).mono ?_
 rintro e w2 ⟨va,vc,rfl,O2,G2⟩
 have HG2:Hid (Gr w w2):=(HG1.out.alloc _).trans G2
 have HR2:Hid (w2.heap[w.heap.size]?=some (.cells #[.int .u32 0,.slice none 0 0] 45 (0,0))):=Kc.up_h G2 (Kc.up_h ((Gr.refl _).alloc _) HR1.out)
 have HO2:Hid (∃b,w2.ownsRow b 77 5 (.slice va xs.length vc) xs.length (Bk.blC xs)):=⟨_,O2⟩
 have hlt2:w.heap.size<w2.heap.size:=(Array.getElem?_eq_some_iff.1 HR2.out).1
 clear G2 O2 HBM HG1 HR1 q0
 obtain ⟨b2,O2⟩:=HO2.out
 have HO3:Hid (w2.ownsRow b2 77 5 (.slice va xs.length vc) xs.length (Bk.blC xs)):=O2
 clear O2 HO2
 go_wp2_with fail
 refine (HTM.out _ va vc b2 (HG2.out.alloc _) (owns_gr HO3.out ((Gr.refl _).alloc _))).mono ?_
 rintro e w3 ⟨ca,cn,cc,rfl,C3,G3⟩
 have HG3:Hid (Gr w w3):=(HG2.out.alloc _).trans G3
 have HR3:Hid (w3.heap[w.heap.size]?=some (.cells #[.int .u32 0,.slice none 0 0] 45 (0,0))):=Kc.up_h G3 (Kc.up_h ((Gr.refl _).alloc _) HR2.out)
 have HB3:Hid (w3.heap[w2.heap.size]?=some (.cells #[.int .u32 pc,.slice va xs.length vc] 45 (0,0))):=Kc.up_h G3 (heap_alloc_new w2 _)
 have HC3:Hid (Ts.Ct w3 ca cn (Ts.codeV pc IS 0)):=C3
 have HOw:Hid (w3.ownsRow b2 77 5 (.slice va xs.length vc) xs.length (Bk.blC xs)):=owns_gr HO3.out (((Gr.refl _).alloc _).trans G3)
 have b0:w3.cell? ⟨w2.heap.size,0,none⟩=some (.int .u32 pc):=cell_of_row _ _ _ _ _ _ HB3.out
 have b1:w3.cell? ⟨w2.heap.size,1,none⟩=some (.slice va xs.length vc):=cell_of_row _ _ _ _ _ _ HB3.out
 clear G3 C3 HTM HO3 HG2 HR2
 go_wp2_with fail
 refine (HKp.out _ va vc b2 ca cn cc HG3.out HOw.out HC3.out).mono ?_
 rintro e w4 ⟨rfl,V4,F4⟩
 have HF4:Hid (Fm base w w4):=(Fm.ofGr HG3.out hbl).trans F4
 have HR4:Hid (w4.heap[w.heap.size]?=some (.cells #[.int .u32 0,.slice none 0 0] 45 (0,0))):=F4.row HR3.out (by decide)
 have HB4:Hid (w4.heap[w2.heap.size]?=some (.cells #[.int .u32 pc,.slice va xs.length vc] 45 (0,0))):=F4.row HB3.out (by decide)
 have HC4:Hid (Ts.Ct w4 ca cn (Ts.codeV pc IS 0)):=HC3.out.to fun k o f e=>F4.keep k o _ f e (by decide)
 have HV4:Hid ((xs.length=0→Gr w w4)∧(0<xs.length→Ev w3.heap.size w4 base g room s (Kc.putL room L ⟨pc,IS⟩) (Kc.putP room pu L ⟨pc,IS⟩) sl (mn+1))):=⟨fun h=>HG3.out.trans (V4.1 h),V4.2⟩
 have c0:w4.cell? ⟨w2.heap.size,0,none⟩=some (.int .u32 pc):=cell_of_row _ _ _ _ _ _ HB4.out
 have c1:w4.cell? ⟨w2.heap.size,1,none⟩=some (.slice va xs.length vc):=cell_of_row _ _ _ _ _ _ HB4.out
 have hsz4:w.heap.size<w4.heap.size:=(Array.getElem?_eq_some_iff.1 HR4.out).1
 have hlt3:w.heap.size<w3.heap.size:=(Array.getElem?_eq_some_iff.1 HR3.out).1
 clear V4 F4 HKp HR3 HB3 HC3 HOw HG3 b0 b1
 go_wp2_with (refine wpList_store_row rfl 45 _ _ rfl w.heap.size #[.int .u32 pc,.slice va xs.length vc] rfl rfl 45 #[.int .u32 0,.slice none 0 0] ?ss1 Bk.iB rfl (one_bl _ _ _ _) ?_;(case ss1=>exact HR4.out))
 refine bodyPost_ret (v:=.tuple #[.agg #[.int .u32 pc,.slice va xs.length vc],.slice ca cn cc]) (Hr.results_cell_tmp' Tryz.results52 _ _ _ _ _ (0,0) _ _ rfl rfl (setRow_heap _ _ _ _ _ (0,0) HR4.out) Tryz.underlying45 rfl Bk.iB) rfl ?_
 refine ⟨va,vc,ca,cn,cc,rfl,HC4.out.to fun k o f e=>setRow_other _ _ _ _ (ne_of_types e HR4.out (by decide)),fun h=>?_,fun h=>?_,HF4.out.setRow hbl (Nat.le_refl _) _⟩
 ·exact ⟨.slice ma mln mc,gh,hc,O,a,n,cap,mb,D,(HE.out.of (gr_setRow (HV4.out.1 h) (Nat.le_refl _) _)).low⟩
 ·exact ((HV4.out.2 h).row HR4.out hlt3 _).low
end
end Go.Proofs.YtchllaeembmioaaGreatDoor.En
namespace Go.Proofs.YtchllaeembmioaaGreatDoor.Mc
open Go.ChangeShapes Go.WideShapes Go.ChangeAt Go.RowKit Mm Hh Hc

variable {ty : Nat} {rs : List Value}
theorem rgs_get:∀(ss:List (Int×Int)) (i:Nat) (p:Int×Int),ss[i]?=some p→(rgs ss)[i*2]?=some (.int .u32 p.1)∧(rgs ss)[i*2+1]?=some (.int .u32 (Wd.lo (p.1+p.2)))
 | [],i,q,h=>by simp at h
 | p::r,0,q,h=>by simp at h;subst h;exact ⟨rfl,rfl⟩
 | p::r,i+1,q,h=>by
  have ih:=rgs_get r i q (by simpa using h)
  have e:rgs (p::r)=[.int .u32 p.1,.int .u32 (Wd.lo (p.1+p.2))]++rgs r:=rfl
  rw [e,List.getElem?_append_right (by simp;omega),List.getElem?_append_right (by simp;omega)]
  simp only [List.length_cons,List.length_nil]
  rw [show (i+1)*2-(0+1+1)=i*2 by omega,show (i+1)*2+1-(0+1+1)=i*2+1 by omega]
  exact ih
theorem take_snoc {α:Type}{l:List α}{i:Nat}{x:α}(h:l[i]?=some x):l.take (i+1)=l.take i++[x]:=by
 rw [List.take_add_one,h]
 rfl
theorem drops_snoc (hs:List Hv){U:List (Nat×Int)}{m:Nat}{q:Nat×Int}(h:U[m]?=some q):drops hs (U.take (m+1))=(drops hs (U.take m)).set q.1 (((drops hs (U.take m)).getD q.1 hN).hold false 0):=by
 rw [take_snoc h,drops_app]
 rfl
theorem lose_snoc (k:Nat){ss:List (Int×Int)}{i:Nat}{p:Int×Int}(h:ss[i]?=some p)(hs:List Hv):lose k (ss.take (i+1)) hs=lose k [p] (lose k (ss.take i) hs):=by
 rw [take_snoc h,lose_app]
theorem cell_sa (w:World)(p:Addr)(v a b:Value)(t:Nat):((w.setCell p v).alloc (.cells #[a,b] t)).drew.cell? ⟨w.heap.size,0,none⟩=some a:=by
 have:=heap_alloc_new (w.setCell p v) (.cells #[a,b] t)
 have e:(w.setCell p v).heap.size=w.heap.size:=by simp
 rw [e] at this
 exact cell_of_row _ _ _ _ _ (0,0) this
theorem cell_saa (w:World)(p p':Addr)(v v' a b:Value)(t:Nat):(((w.setCell p v).setCell p' v').alloc (.cells #[a,b] t)).drew.drew.cell? ⟨w.heap.size,0,none⟩=some a:=by
 have:=heap_alloc_new ((w.setCell p v).setCell p' v') (.cells #[a,b] t)
 have e:((w.setCell p v).setCell p' v').heap.size=w.heap.size:=by simp
 rw [e] at this
 exact cell_of_row _ _ _ _ _ (0,0) this
theorem Take_any {w:World}{base g gh hc:Nat}{M O:Value}{s:Sh}(B:Bw ty rs w base g M gh hc O s){c:Nat}(hcl:s.hs.length=c)(hc4:c≤4){d:Qv}{x:Wk}{b:Nat}(D:Dq w b d x)(ok:d.h.Ok)(bd:∀p∈x.sto,0≤p.1∧0<p.2∧p.1+p.2≤4096)
  (hsl:x.sto.length≤1000000)(hol:s.out.length+x.out.length≤1000000)(hst:s.steps+x.n≤1000000000){k:Nat}(hk:k<c):
  Calls Tryz.prog 27 #[.pointer (some ⟨g,0,none⟩),.int .i64 k,.agg (qA d)] w fun e w'=>e=.returned (.tuple #[])∧Bd ty rs w' base g (tk s k x)∧Fe ty base w w':=by
 obtain ⟨sa,sc,hsto⟩:=(owns_cells D.sto).2.2
 obtain ⟨oa,oc,rfl⟩:=(owns_cells B.out).2.2
 obtain ⟨da,dc,hdo⟩:=(owns_cells D.out).2.2
 obtain ⟨da2,dc2,hdm,_⟩:=D.mem.mem
 have HDO:Hid (d.out=.slice da x.out.length dc):=hdo
 have HDM:Hid (d.m=.slice da2 x.m.length dc2):=hdm
 have hbw:base≤w.heap.size:=B.base_le
 have g40:(qA d)[40]?=some (.slice sa x.sto.length sc):=by rw [qA_fld ok 3];simp [hsto]
 have g37:(qA d)[37]?=some (.slice da2 x.m.length dc2):=by rw [qA_fld ok 0];simp [hdm]
 have g38:(qA d)[38]?=some (.slice da x.out.length dc):=by rw [qA_fld ok 1];simp [hdo]
 have g39:(qA d)[39]?=some (.int .i64 x.n):=by rw [qA_fld ok 2];simp [D.n]
 have HLD:Hid ((hL d.h).length=37):=hL_len ok
 have HGR:Hid (∀j u,(hL d.h)[j]?=some u→(qA d)[j]?=some u):=fun j u hj=>by
  have:j<37:=by have:=(List.getElem?_eq_some_iff.1 hj).1;rwa [HLD.out] at this
  rw [qA_get ok this];exact hj
 have HOK:Hid d.h.Ok:=ok
 have HD:Hid (Dq w b d x):=D
 have HB:Hid (Bw ty rs w base g M gh hc (.slice oa s.out.length oc) s):=B
 have hgl:g<w.heap.size:=B.lt
 have hghl:gh<w.heap.size:=by obtain ⟨_,e⟩:=B.row.row;exact (Array.getElem?_eq_some_iff.1 e).1
 have hggh:g≠gh:=by obtain ⟨_,e⟩:=B.row.row;exact ne_of_types B.blk e B.t3
 have HCL:Hid (s.hs.length=c):=hcl
 have HBD:Hid (∀p∈x.sto,0≤p.1∧0<p.2∧p.1+p.2≤4096):=bd
 have HST:Hid (d.sto=.slice sa x.sto.length sc):=hsto
 clear D ok hsto B hcl bd hdo hdm
 generalize qA d=QA at *
 generalize hn:x.sto.length=n at *
 have HN:Hid (x.sto.length=n):=hn
 clear hn
 go_enter Tryz.func27,Tryz.ntmps27
 go_wp2_with fail
 go_loopw [13] (fun i wr=>∃i':Nat,i'≤n∧i=.int .i64 i'∧Bw ty rs wr base g M gh hc (.slice oa s.out.length oc) ⟨lose k (x.sto.take i') s.hs,s.m,s.out,s.steps⟩∧Ch gh (w.alloc (.cells QA 84)) wr) (fun i _=>n-(intOf i).toNat)
 case atStart=>
  refine ⟨0,Nat.zero_le _,rfl,?_,Ch.refl _ _⟩
  rw [List.take_zero,lose_nil]
  exact HB.out.of ((Gr.refl _).alloc _)
 case round=>
  obtain ⟨i,hi,rfl,B1,C1⟩:=hrel
  have HB1:Hid (Bw ty rs wr base g M gh hc (.slice oa s.out.length oc) ⟨lose k (x.sto.take i) s.hs,s.m,s.out,s.steps⟩):=B1
  have HC1:Hid (Ch gh (w.alloc (.cells QA 84)) wr):=C1
  have HD1:Hid (Dq wr b d x):=(HD.out.gr ((Gr.refl _).alloc _)).ch (HB.out.row.of ((Gr.refl _).alloc _)) C1
  clear B1 C1
  by_cases hlt:i<n
  ·obtain ⟨p,hp⟩:∃p,x.sto[i]?=some p:=⟨_,List.getElem?_eq_getElem (by rw [HN.out];exact hlt)⟩
   have HP:Hid (x.sto[i]?=some p):=hp
   obtain ⟨p0,p1,p2⟩:=HBD.out p (List.mem_of_getElem? hp)
   obtain ⟨sb,cp,hv,_⟩:=owns_at HD1.out.sto (by rw [HN.out];omega)
   rw [HST.out,HN.out] at hv
   obtain rfl:sa=some ⟨sb,0,none⟩:=by injection hv
   have OS:wr.ownsRow b 109 2 (.slice (some ⟨sb,0,none⟩) n sc) n (rgs x.sto):=by have:=HD1.out.sto;rw [HST.out,HN.out] at this;exact this
   have s0:wr.cell? ⟨sb,i*2,none⟩=some (.int .u32 p.1):=(OS.cellAt _ (by omega)).trans (rgs_get _ _ _ hp).1
   have s1:wr.cell? ⟨sb,i*2+1,none⟩=some (.int .u32 (Wd.lo (p.1+p.2))):=(OS.cellAt _ (by omega)).trans (rgs_get _ _ _ hp).2
   have HL1:Hid ((lose k (x.sto.take i) s.hs).length=c):=by unfold Hid;rw [lose_len];exact HCL.out
   have HLo:Hid (∀W:World,Gr wr W→Calls Tryz.prog 49 #[.pointer (some ⟨g,0,none⟩),.int .i64 k,.agg #[.int .u32 p.1,.int .u32 (Wd.lo (p.1+p.2))]] W fun e w'=>∃v,e=.returned v∧w'.ownsRow W.heap.size 113 2 v (lostU k p (lose k (x.sto.take i) s.hs) c).length (lsC (lostU k p (lose k (x.sto.take i) s.hs) c))∧Gr W w'):=fun W G=>by
    have:=Lost_any (HB1.out.of G) (by show (lose _ _ _).length≤4;rw [HL1.out];exact hc4) k p p0 p1 p2
    simp only [HL1.out] at this
    exact this
   have HNX:Hid (lose k (x.sto.take (i+1)) s.hs=drops (lose k (x.sto.take i) s.hs) (lostU k p (lose k (x.sto.take i) s.hs) c)):=by
    unfold Hid
    rw [lose_snoc k hp,←drops_all,HL1.out]
   have hUl:=lostU_len k p (lose k (x.sto.take i) s.hs) c
   have HUlt:Hid (∀q∈lostU k p (lose k (x.sto.take i) s.hs) c,q.1<c):=lostU_lt k p _ c
   clear hv OS hp
   generalize lose k (x.sto.take i) s.hs=hs at *
   generalize lostU k p hs c=U at *
   generalize Wd.lo (p.1+p.2)=pt at *
   generalize p.1=pf at *
   go_wp2_with fail
   refine (HLo.out _ ((Gr.refl _).alloc _)).mono ?_
   rintro e w2 ⟨v,rfl,OL,G2⟩
   obtain ⟨la,lc,rfl⟩:=(owns_cells OL).2.2
   have HG2:Hid (Gr wr w2):=((Gr.refl _).alloc _).trans G2
   have HOL:Hid (w2.ownsRow 0 113 2 (.slice la U.length lc) U.length (lsC U)):=⟨OL.1,OL.2.imp (fun h=>h) (fun ⟨a,b,c,h1,h2,h3⟩=>⟨a,b,c,h1,Nat.zero_le _,h3⟩)⟩
   have HB2:Hid (Bw ty rs w2 base g M gh hc (.slice oa s.out.length oc) ⟨hs,s.m,s.out,s.steps⟩):=HB1.out.of HG2.out
   have HC2:Hid (Ch gh (w.alloc (.cells QA 84)) w2):=HC1.out.gr HG2.out
   clear OL G2 HLo s0 s1 HB1 HC1 HD1
   go_wp2_with fail
   go_loopw [22] (fun i wq=>∃m:Nat,m≤U.length∧i=.int .i64 m∧Bw ty rs wq base g M gh hc (.slice oa s.out.length oc) ⟨drops hs (U.take m),s.m,s.out,s.steps⟩∧Ch gh w2 wq) (fun i _=>U.length-(intOf i).toNat)
   case atStart=>
    refine ⟨0,Nat.zero_le _,rfl,?_,Ch.refl _ _⟩
    rw [List.take_zero]
    exact HB2.out
   case round=>
    obtain ⟨m,hm,rfl,B3,C3⟩:=hrel
    have HB3:Hid (Bw ty rs wr base g M gh hc (.slice oa s.out.length oc) ⟨drops hs (U.take m),s.m,s.out,s.steps⟩):=B3
    have HC3:Hid (Ch gh w2 wr):=C3
    clear B3 C3
    by_cases hlt2:m<U.length
    ·obtain ⟨q,hq⟩:∃q,U[m]?=some q:=⟨_,List.getElem?_eq_getElem hlt2⟩
     obtain ⟨lb,cp2,hv,_⟩:=owns_at HOL.out (by omega)
     obtain rfl:la=some ⟨lb,0,none⟩:=by injection hv
     have OL3:wr.ownsRow 0 113 2 (.slice (some ⟨lb,0,none⟩) U.length lc) U.length (lsC U):=owns_to HOL.out fun k o f hk=>ch_keep HB2.out.row HC3.out (by decide) hk
     have l0:wr.cell? ⟨lb,m*2,none⟩=some (.int .i64 q.1):=(OL3.cellAt _ (by omega)).trans (lsC_get _ _ _ hq).1
     have l1:wr.cell? ⟨lb,m*2+1,none⟩=some (.int .u32 q.2):=(OL3.cellAt _ (by omega)).trans (lsC_get _ _ _ hq).2
     have HDS:Hid (drops hs (U.take (m+1))=(drops hs (U.take m)).set q.1 (((drops hs (U.take m)).getD q.1 hN).hold false 0)):=drops_snoc hs hq
     have hq1:q.1<c:=HUlt.out q (List.mem_of_getElem? hq)
     have hdl:(drops hs (U.take m)).length=c:=by rw [drops_len];exact HL1.out
     have HDL:Hid ((drops hs (U.take m)).length=c):=hdl
     have hgq:(drops hs (U.take m))[q.1]?=some ((drops hs (U.take m)).getD q.1 hN):=by rw [List.getElem?_eq_getElem (by omega)];simp [List.getD,show q.1<(drops hs (U.take m)).length by omega]
     have okq:((drops hs (U.take m)).getD q.1 hN).Ok:=HB3.out.row.ok _ (List.mem_of_getElem? hgq)
     have c33:wr.cell? ⟨gh,q.1*37+33,none⟩=some (.bool ((drops hs (U.take m)).getD q.1 hN).held):=(HB3.out.row.cell hgq (by omega)).trans (hL_fld okq 1)
     have c34:wr.cell? ⟨gh,q.1*37+34,none⟩=some (.int .u32 ((drops hs (U.take m)).getD q.1 hN).heldAt):=(HB3.out.row.cell hgq (by omega)).trans (hL_fld okq 2)
     have f33:wr.frozen? ⟨gh,q.1*37+33,none⟩=false:=HB3.out.row.fz _
     have f34:wr.frozen? ⟨gh,q.1*37+34,none⟩=false:=HB3.out.row.fz _
     have kg1:wr.cell? ⟨g,1,none⟩=some (.slice (some ⟨gh,0,none⟩) c hc):=by have:=HB3.out.c1;simp only [HDL.out] at this;exact this
     have hgw:g<wr.heap.size:=(Array.getElem?_eq_some_iff.1 HB3.out.blk).1
     have hghw:gh<wr.heap.size:=by obtain ⟨_,e⟩:=HB3.out.row.row;exact (Array.getElem?_eq_some_iff.1 e).1
     have n1:gh≠g:=fun e=>hggh e.symm
     have n2:gh≠wr.heap.size:=by omega
     have HGQ:Hid ((drops hs (U.take m))[q.1]?=some ((drops hs (U.take m)).getD q.1 hN)):=hgq
     have HOQ:Hid ((drops hs (U.take m)).getD q.1 hN).Ok:=okq
     clear hq hv OL3 hdl hgq okq
     obtain ⟨q1,q2⟩:=q
     simp only at *
     generalize (drops hs (U.take m)).getD q1 hN=hq at *
     generalize drops hs (U.take m)=hsm at *
     go_wp2_with fail
     go_region_held3 (fun W=>W.cell? ⟨g,1,none⟩=some (.slice (some ⟨gh,0,none⟩) c hc)∧W.cell? ⟨wr.heap.size,0,none⟩=some (.int .i64 q1)) (refine ⟨?_,?_⟩<;>first|(go_keep;done)|exact cell_sa _ _ _ _ _ _|exact cell_saa _ _ _ _ _ _ _ _) (fail)
     go_wp2_with fail
     go_region_held3 (fun W=>W.cell? ⟨g,1,none⟩=some (.slice (some ⟨gh,0,none⟩) c hc)∧W.cell? ⟨wr.heap.size,0,none⟩=some (.int .i64 q1)) (refine ⟨?_,?_⟩<;>first|(go_keep;done)|exact cell_saa _ _ _ _ _ _ _ _) (fail)
     go_wp2_with fail
     go_roundw
     case rel=>
      have ok1:Hv.Ok { hq with held:=false }:=⟨HOQ.out.len,HOQ.out.reg,HOQ.out.pc0,HOQ.out.pc1,HOQ.out.at0,HOQ.out.at1⟩
      have R1:=HB3.out.row.set HGQ.out (by omega) (set_held HOQ.out false) ok1
      have hg1:(hsm.set q1 { hq with held:=false })[q1]?=some { hq with held:=false }:=by rw [List.getElem?_set_self (by rw [HDL.out];exact hq1)]
      have R2:=R1.set hg1 (by omega) (set_heldAt ok1 0) (h':=hq.hold false 0) (HOQ.out.hold false (x:=0) (by omega) (by omega))
      rw [List.set_set] at R2
      have CH:∀o:Obj,Ch gh wr (((wr.setCell ⟨gh,q1*37+33,none⟩ (.bool false)).setCell ⟨gh,q1*37+34,none⟩ (.int .u32 0)).alloc o).drew.drew:=fun o=>Ch.gr (((Ch.refl gh wr).setCell _ _).setCell _ _) (Gr.drew (Gr.drew (Gr.alloc (Gr.refl _) _)))
      refine ⟨m+1,by omega,by go_num,?_,HC3.out.trans (CH _)⟩
      rw [HDS.out]
      exact HB3.out.ch (CH _) (R2.of (Gr.drew (Gr.drew (Gr.alloc (Gr.refl _) _)))) (by show (hsm.set q1 _).length=hsm.length;rw [List.length_set])
     case measure=>simp [intOf];omega
    ·have HBN:Hid (Bw ty rs wr base g M gh hc (.slice oa s.out.length oc) ⟨lose k (x.sto.take (i+1)) s.hs,s.m,s.out,s.steps⟩):=by
      have:=HB3.out
      rw [show m=U.length by omega,List.take_length] at this
      unfold Hid;rw [HNX.out];exact this
     have HCN:Hid (Ch gh (w.alloc (.cells QA 84)) wr):=HC2.out.trans HC3.out
     clear HB3 HC3 HNX HOL HB2 HC2
     go_wp2_with fail
     go_roundw
     case rel=>exact ⟨i+1,by omega,by go_num,HBN.out,HCN.out⟩
     case measure=>simp [intOf];omega
-- TAIL
  ·have HB4:Hid (Bw ty rs wr base g M gh hc (.slice oa s.out.length oc) ⟨lose k x.sto s.hs,s.m,s.out,s.steps⟩):=by
    have:=HB1.out
    rw [show i=x.sto.length by rw [HN.out];omega,List.take_length] at this
    exact this
   have HBX:Hid (wr.heap[w.heap.size]?=some (.cells QA 84 (0,0))):=(ch_keep (HB.out.row.of ((Gr.refl _).alloc _)) HC1.out (by decide) (heap_alloc_new w _)).trans (heap_alloc_new w _)
   have HL4:Hid ((lose k x.sto s.hs).length=c):=by unfold Hid;rw [lose_len];exact HCL.out
   have kg1:wr.cell? ⟨g,1,none⟩=some (.slice (some ⟨gh,0,none⟩) c hc):=by have:=HB4.out.c1;simp only [HL4.out] at this;exact this
   have HRG:Hid (wr.rangeAt w.heap.size 0 (hL d.h)):=fun j u hj=>by rw [Nat.zero_add,cell_of_row _ _ _ _ _ _ HBX.out];exact HGR.out j u hj
   have HTH:Hid (wr.there gh (k*37) 37):=HB4.out.row.there (i:=k) (List.getElem?_eq_getElem (by rw [HL4.out];exact hk))
   have HCA:Hid (Fe ty base w wr):=Fe.trans (Fe.ofGr ((Gr.refl w).alloc _) hbw) (Fe.ch (HB.out.row.of ((Gr.refl _).alloc _)) HC1.out HB.out.bh (by simp;omega))
   clear HB1 HC1 HBD
   generalize hh4:lose k x.sto s.hs=hs4 at *
   have HH4:Hid (lose k x.sto s.hs=hs4):=hh4
   clear hh4
   go_wp2_with fail
   refine wp_region_held_drew (S:=fun W=>W.cell? ⟨g,1,none⟩=some (.slice (some ⟨gh,0,none⟩) c hc)∧W.rangeAt w.heap.size 0 (hL d.h)) (by kernel_rfl) ?_ (fun hHeld=>?_)
   ·exact ⟨kg1,HRG.out⟩
   have HS0:Hid _:=hHeld
   clear hHeld
   refine wpAnyH_take (i:=0) (v:=.pointer (some ⟨g,0,none⟩)) rfl (by kernel_rfl) (by kernel_rfl) (by kernel_rfl) (fun _ _ _ h=>h) (Or.inl ⟨by rfl,fun W hW=>by obtain ⟨q0,q1⟩:=hW;go_simp⟩) HS0.out ?_
   simp only [Act.put,List.setIfInBounds_toArray,List.set_cons_zero,List.set_cons_succ]
   refine wpAnyH_take (i:=1) (v:=.pointer (some ⟨g,0,none⟩)) rfl (by kernel_rfl) (by kernel_rfl) (by kernel_rfl) (fun _ _ _ h=>h) (Or.inl ⟨by rfl,fun W hW=>by obtain ⟨q0,q1⟩:=hW;go_simp⟩) HS0.out ?_
   simp only [Act.put,List.setIfInBounds_toArray,List.set_cons_zero,List.set_cons_succ]
   refine wpAnyH_take (i:=2) (v:=.pointer (some ⟨g,0,none⟩)) rfl (by kernel_rfl) (by kernel_rfl) (by kernel_rfl) (fun _ _ _ h=>h) (Or.inl ⟨by rfl,fun W hW=>by obtain ⟨q0,q1⟩:=hW;go_simp⟩) HS0.out ?_
   simp only [Act.put,List.setIfInBounds_toArray,List.set_cons_zero,List.set_cons_succ]
   refine wpAnyH_take (i:=3) (v:=.pointer (some ⟨g,0,none⟩)) rfl (by kernel_rfl) (by kernel_rfl) (by kernel_rfl) (fun _ _ _ h=>h) (Or.inl ⟨by rfl,fun W hW=>by obtain ⟨q0,q1⟩:=hW;go_simp⟩) HS0.out ?_
   simp only [Act.put,List.setIfInBounds_toArray,List.set_cons_zero,List.set_cons_succ]
   refine wpAnyH_take (i:=4) (v:=.pointer (some ⟨g,1,none⟩)) rfl (by kernel_rfl) (by kernel_rfl) (by kernel_rfl) (fun _ _ _ h=>h) (Or.inl ⟨by rfl,fun W hW=>by obtain ⟨q0,q1⟩:=hW;go_simp⟩) HS0.out ?_
   simp only [Act.put,List.setIfInBounds_toArray,List.set_cons_zero,List.set_cons_succ]
   refine wpAnyH_take (i:=5) (v:=.slice (some ⟨gh,0,none⟩) c hc) rfl (by kernel_rfl) (by kernel_rfl) (by kernel_rfl) (fun _ _ _ h=>h) (Or.inl ⟨by rfl,fun W hW=>by obtain ⟨q0,q1⟩:=hW;go_simp⟩) HS0.out ?_
   simp only [Act.put,List.setIfInBounds_toArray,List.set_cons_zero,List.set_cons_succ]
   refine wpAnyH_take (i:=6) (v:=.int .i64 k) rfl (by kernel_rfl) (by kernel_rfl) (by kernel_rfl) (fun _ _ _ h=>h) (Or.inl ⟨by rfl,fun W hW=>by obtain ⟨q0,q1⟩:=hW;go_simp⟩) HS0.out ?_
   simp only [Act.put,List.setIfInBounds_toArray,List.set_cons_zero,List.set_cons_succ]
   refine wpAnyH_take (i:=7) (v:=.pointer (some ⟨w.heap.size,0,none⟩)) rfl (by kernel_rfl) (by kernel_rfl) (by kernel_rfl) (fun _ _ _ h=>h) (Or.inl ⟨by rfl,fun W hW=>by obtain ⟨q0,q1⟩:=hW;go_simp⟩) HS0.out ?_
   simp only [Act.put,List.setIfInBounds_toArray,List.set_cons_zero,List.set_cons_succ]
   refine wpAnyH_take (i:=8) (v:=.agg (hL d.h).toArray) rfl (by kernel_rfl) (by kernel_rfl) (by kernel_rfl) (fun _ _ _ h=>h) ?hy HS0.out ?_
   case hy=>exact yieldsIf_load_mid (by rfl) 51 (.tmp 55) rfl w.heap.size 0 (by simp [Act.eval]) (hL d.h) _ (fun W hW=>hW.2) Tryz.underlying51 rfl (by rw [HLD.out];exact iH)
   simp only [Act.put,List.setIfInBounds_toArray,List.set_cons_zero,List.set_cons_succ]
   refine wpAnyH_take (i:=9) (v:=.pointer (some ⟨gh,k*37,none⟩)) rfl (by kernel_rfl) (by kernel_rfl) (by kernel_rfl) (fun _ _ _ h=>h) (Or.inl ⟨by rfl,fun W hW=>by obtain ⟨q0,q1⟩:=hW;go_simp⟩) HS0.out ?_
   simp only [Act.put,List.setIfInBounds_toArray,List.set_cons_zero,List.set_cons_succ]
   have C5:Ch gh wr (wr.drew.setCells gh (k*37) (hL d.h)):=Ch.setCells (Ch.ofGr (Gr.drew (Gr.refl _))) _ _
   have B5:Bw ty rs (wr.drew.setCells gh (k*37) (hL d.h)) base g M gh hc (.slice oa s.out.length oc) ⟨hs4.set k d.h,s.m,s.out,s.steps⟩:=HB4.out.ch C5 ((HB4.out.row.of (Gr.drew (Gr.refl _))).put (by rw [HL4.out];exact hk) HOK.out) (by show (hs4.set k _).length=hs4.length;rw [List.length_set])
   have X5:(wr.drew.setCells gh (k*37) (hL d.h)).heap[w.heap.size]?=some (.cells QA 84 (0,0)):=(ch_keep HB4.out.row C5 (by decide) HBX.out).trans HBX.out
   have D5:Dq (wr.drew.setCells gh (k*37) (hL d.h)) b d x:=HD1.out.ch HB4.out.row C5
   have L5:Fe ty base w (wr.drew.setCells gh (k*37) (hL d.h)):=Fe.trans HCA.out (Fe.ch HB4.out.row C5 HB.out.bh HB4.out.base_le)
   refine held_store_mid (i:=10) (by kernel_rfl) rfl rfl 51 (.tmp 57) (.tmp 56) rfl gh (k*37) (hL d.h).toArray (by simp [Act.eval]) (by simp [Act.eval]) (by rw [List.size_toArray,HLD.out];exact HTH.out) (by rw [List.size_toArray,HLD.out];exact iH) (one_hA d.h) ?_ ?_
   ·exact ⟨by have:=B5.c1;simp only [List.length_set,HL4.out] at this;exact this,fun j u hj=>by rw [Nat.zero_add,cell_of_row _ _ _ _ _ _ X5];exact HGR.out j u hj⟩
   clear HS0
   refine wpAnyH_done (by kernel_rfl) ?_ _
   have e0:(hL d.h).toArray.toList=hL d.h:=rfl
   rw [e0]
   clear HTH HRG kg1 C5 HB4 HBX HD1 HCA
   generalize wr.drew.setCells gh (k*37) (hL d.h)=w5 at *
   have HB5:Hid (Bw ty rs w5 base g M gh hc (.slice oa s.out.length oc) ⟨hs4.set k d.h,s.m,s.out,s.steps⟩):=B5
   have HX5:Hid (w5.heap[w.heap.size]?=some (.cells QA 84 (0,0))):=X5
   have HD5:Hid (Dq w5 b d x):=D5
   have HL5:Hid (Fe ty base w w5):=L5
   have k0:w5.cell? ⟨g,0,none⟩=some M:=B5.c0
   have f0:w5.frozen? ⟨g,0,none⟩=false:=B5.fz 0
   have m37:w5.cell? ⟨w.heap.size,37,none⟩=some (.slice da2 x.m.length dc2):=(cell_of_row _ _ _ _ _ _ X5).trans g37
   clear B5 X5 D5 L5
   go_wp2_with fail
   have B6:=HB5.out.setM (by have:=HD5.out.mem;rw [HDM.out] at this;exact this)
   have X6:(w5.setCell ⟨g,0,none⟩ (.slice da2 x.m.length dc2)).heap[w.heap.size]?=some (.cells QA 84 (0,0)):=(heap_setCell_other _ _ _ _ (by show w.heap.size≠g;omega)).trans HX5.out
   have D6:(w5.setCell ⟨g,0,none⟩ (.slice da2 x.m.length dc2)).ownsRow b 42 1 d.out x.out.length (x.out.map (Value.int .u32)):=owns_to HD5.out.out fun _ _ _ hk=>bw_other HB5.out _ _ HB.out.t2.symm hk
   have L6:Fe ty base w (w5.setCell ⟨g,0,none⟩ (.slice da2 x.m.length dc2)):=Fe.setCell HL5.out HB5.out.blk HB.out.bg _ _
   clear HB5 HX5 HD5 HL5 k0 f0 m37
   generalize w5.setCell ⟨g,0,none⟩ (.slice da2 x.m.length dc2)=w6 at *
   have HB6:Hid (Bw ty rs w6 base g (.slice da2 x.m.length dc2) gh hc (.slice oa s.out.length oc) ⟨hs4.set k d.h,x.m,s.out,s.steps⟩):=B6
   have HX6:Hid (w6.heap[w.heap.size]?=some (.cells QA 84 (0,0))):=X6
   have HD6:Hid (w6.ownsRow b 42 1 (.slice da x.out.length dc) x.out.length (x.out.map (Value.int .u32))):=by rw [HDO.out] at D6;exact D6
   have HL6:Hid (Fe ty base w w6):=L6
   have k2:w6.cell? ⟨g,2,none⟩=some (.slice oa s.out.length oc):=B6.c2
   have m38:w6.cell? ⟨w.heap.size,38,none⟩=some (.slice da x.out.length dc):=(cell_of_row _ _ _ _ _ _ X6).trans g38
   have hb6:base≤w6.heap.size:=B6.base_le
   have HO6:Hid (w6.ownsRow base 42 1 (.slice oa s.out.length oc) s.out.length (s.out.map (Value.int .u32))):=B6.out
   clear B6 X6 D6 L6
   obtain ⟨i0,hi0,hz0,hz1,hz2⟩:=info_parts infoW
   go_region_law (refine step_append_src rfl (.tmp 70) (.tmp 72) rfl Tryz.underlying30 hi0 hz0 hz1 hz2 rfl (by decide) (by simp [Act.eval,Act.put]) (by simp [Act.eval,Act.put]) (owns_gr HO6.out (by repeat (first|exact Gr.refl _|refine Gr.drew ?_))) (Src.own (owns_gr HD6.out (by repeat (first|exact Gr.refl _|refine Gr.drew ?_)))) (words_one _) (by unfold maxLen;omega) (by omega) (by exact hb6) ?_;intro v' w7 hown hgrow;obtain ⟨va,vc,rfl⟩:=(owns_cells hown).2.2;have X7:=(grown_keep (owns_gr HO6.out (Gr.drew (Gr.refl _))) hgrow (by decide) (Hr.heap_of_gr (Gr.drew (Gr.refl _)) HX6.out));rw [Hr.heap_of_gr (Gr.drew (Gr.refl _)) HX6.out] at X7;have HX7:Hid (w7.heap[w.heap.size]?=some (.cells QA 84 (0,0))):=X7;rw [←List.map_append,←List.length_append] at hown;obtain ⟨c2,z2,B7,L7⟩:=(HB6.out.of (Gr.drew (Gr.refl _))).grown hgrow hown;have HB7:Hid _:=B7;have HL7:Hid (Fe ty base w _):=Fe.trans HL6.out (Fe.trans (Fe.drew (Fe.refl base w6)) L7);clear X7 B7 L7 hown hgrow)
   all_goals
    have B8:=HB7.out
    have L8:=HL7.out
    have X8:(w7.setCell ⟨g,2,none⟩ (.slice va (s.out.length+x.out.length) vc)).heap[w.heap.size]?=some (.cells QA 84 (0,0)):=(heap_setCell_other _ _ _ _ (by show w.heap.size≠g;omega)).trans HX7.out
    clear HB7 HL7 HX7 HB6 HX6 HD6 HL6 HO6 k2 m38 c2 z2
    rw [List.length_append] at B8 L8
    generalize w7.setCell ⟨g,2,none⟩ (.slice va (s.out.length+x.out.length) vc)=w8 at *
    have HB8:Hid (Bw ty rs w8 base g (.slice da2 x.m.length dc2) gh hc (.slice va (s.out.length+x.out.length) vc) ⟨hs4.set k d.h,x.m,s.out++x.out,s.steps⟩):=B8
    have HL8:Hid (Fe ty base w w8):=L8
    have k3:w8.cell? ⟨g,3,none⟩=some (.int .i64 s.steps):=B8.c3
    have f3:w8.frozen? ⟨g,3,none⟩=false:=B8.fz 3
    have m39:w8.cell? ⟨w.heap.size,39,none⟩=some (.int .i64 x.n):=(cell_of_row _ _ _ _ _ _ X8).trans g39
    clear B8 L8 X8
    go_wp2_with fail
    go_region
   all_goals
    go_end0
    refine ⟨rfl,?_,?_⟩
    ·have B9:=HB8.out.setN (s.steps+x.n)
     have e9:tk s k x=⟨hs4.set k d.h,x.m,s.out++x.out,s.steps+x.n⟩:=by unfold tk;rw [HH4.out,HD.out.hh]
     rw [e9]
     rw [Int.natCast_add] at B9
     exact ⟨_,_,_,_,B9.of (Gr.drew (Gr.refl _))⟩
    ·exact Fe.drew (Fe.setCell HL8.out HB8.out.blk HB.out.bg _ _)
end Go.Proofs.YtchllaeembmioaaGreatDoor.Mc
