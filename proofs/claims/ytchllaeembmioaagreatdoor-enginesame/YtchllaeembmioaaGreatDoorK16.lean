/-
  Mb3, Hm3, Hm4, Hm5, Bk, Hf, Hm6, MemArgs, Hao, Ha: texts of ours that lie in one file.
-/
import Derived.Test.YtchllaeembmioaaGreatDoorK15
import Derived.Deep.RegionHeld3
import Derived.Test.YtchllaeembmioaaGreatDoorK03
import Derived.Test.YtchllaeembmioaaGreatDoorK05
import Derived.Test.YtchllaeembmioaaGreatDoorK10
import Derived.Test.YtchllaeembmioaaGreatDoorK02
import Derived.Test.YtchllaeembmioaaGreatDoorK12
import Derived.Test.YtchllaeembmioaaGreatDoorK01
import Derived.ProofKit
import Derived.SizedLaws
import Derived.Test.YtchllaeembmioaaGreatDoorK07
set_option linter.unusedVariables false
set_option linter.unusedSimpArgs false
set_option maxHeartbeats 8000000
set_option maxRecDepth 100000
namespace Go.Proofs.YtchllaeembmioaaGreatDoor.Mc
open Go.ChangeShapes Go.WideShapes Go.ChangeAt Go.RowKit Mm Hh Hc

variable {ty : Nat} {rs : List Value}
theorem HRow.of {w w':World}{g:Nat}{hs:List Hv}(r:HRow w g hs)(G:Gr w w'):HRow w' g hs:=by
 obtain ⟨rest,e⟩:=r.row
 exact ⟨r.ok,rest,(G.block _ (gs e).1).trans e⟩
theorem own_gr {w w':World}{base:Nat}{v:Value}{l:List UInt8}(h:Own w base v l)(G:Gr w w'):Own w' base v l:=
 h.to fun k o f e=>G.block _ (gs e).1
structure Bw (ty:Nat) (rs:List Value) (w:World) (base g:Nat) (M:Value) (gh hc:Nat) (O:Value) (s:Sh):Prop where
 t1:ty≠5
 t2:ty≠42
 t3:ty≠51
 bg:base≤g
 blk:w.heap[g]?=some (.cells (M::.slice (some ⟨gh,0,none⟩) s.hs.length hc::O::.int .i64 s.steps::rs).toArray ty (0,0))
 mem:Own w 0 M s.m
 bh:base≤gh
 row:HRow w gh s.hs
 out:w.ownsRow base 42 1 O s.out.length (s.out.map (Value.int .u32))
def Bd (ty:Nat) (rs:List Value) (w:World) (base g:Nat) (s:Sh):Prop:=∃M gh hc O,Bw ty rs w base g M gh hc O s
theorem Bw.of {w w':World}{base g:Nat}{M:Value}{gh hc:Nat}{O:Value}{s:Sh}(B:Bw ty rs w base g M gh hc O s)(G:Gr w w'):Bw ty rs w' base g M gh hc O s:=
 ⟨B.t1,B.t2,B.t3,B.bg,(G.block _ (gs B.blk).1).trans B.blk,own_gr B.mem G,B.bh,B.row.of G,owns_to B.out fun k o f e=>G.block _ (gs e).1⟩
section
variable {w : World} {base g gh hc : Nat} {M O : Value} {s : Sh}
theorem Bw.lt (B:Bw ty rs w base g M gh hc O s):g<w.heap.size:=(gs B.blk).1
theorem Bw.c0 (B:Bw ty rs w base g M gh hc O s):w.cell? ⟨g,0,none⟩=some M:=(cr B.blk).trans (by simp)
theorem Bw.c1 (B:Bw ty rs w base g M gh hc O s):w.cell? ⟨g,1,none⟩=some (.slice (some ⟨gh,0,none⟩) s.hs.length hc):=(cr B.blk).trans (by simp)
theorem Bw.c2 (B:Bw ty rs w base g M gh hc O s):w.cell? ⟨g,2,none⟩=some O:=(cr B.blk).trans (by simp)
theorem Bw.c3 (B:Bw ty rs w base g M gh hc O s):w.cell? ⟨g,3,none⟩=some (.int .i64 s.steps):=(cr B.blk).trans (by simp)
theorem Bw.rest (B:Bw ty rs w base g M gh hc O s)(i:Nat):w.cell? ⟨g,4+i,none⟩=rs[i]?:=(cr B.blk).trans (by rw [List.getElem?_toArray,Nat.add_comm];rfl)
end

theorem one_bd (a b c:Option Addr)(n1 n2 n3 c1 c2 c3:Nat)(x:Int):(#[.slice a n1 c1,.slice b n2 c2,.slice c n3 c3,.int .i64 x]:Array Value).all (·.oneCell')=true:=by
 refine all_oneCell_toArray ?_
 intro v hv
 simp only [List.mem_cons,List.not_mem_nil,or_false] at hv
 rcases hv with rfl|rfl|rfl|rfl<;>rfl
theorem iB:(Tryz.prog.info? 59).map (·.size)=some 4:=by kernel_rfl
theorem NewBoard_no {ma ha pa:Option Addr}{hn pn:Nat}(mc hc pc:Nat){m:List UInt8}{hs:List Hv}{ps:List (Int×Int)}{w:World}(mn:Nat)(hmn:m.length=mn)(H:Hs w ha hn hs)(P:Ps w pa pn ps)(b1:mn≤140737488351232)(b2:hn≤140737488351232)(b3:pn≤140737488351232)(hno:¬wrong m hs ps=0):
  Calls Tryz.prog 17 #[.agg #[.slice ma mn mc,.slice ha hn hc],.slice pa pn pc] w fun e w'=>e=.returned (.tuple #[.agg #[.slice none 0 0,.slice none 0 0,.slice none 0 0,.int .i64 0],.int .i64 (wrong m hs ps)])∧Gr w w':=by
 have HM:Hid (∀W:World,Gr w W→Calls Tryz.prog 29 #[.agg #[.slice ma mn mc,.slice ha hn hc],.slice pa pn pc] W fun e w'=>e=.returned (.int .i64 (wrong m hs ps))∧Gr W w'):=fun W G=>pwrong_any mc hc pc mn hmn (H.of G) (P.of G) b1 b2 b3
 clear H P hmn
 generalize wrong m hs ps=E at *
 have hE:(E != 0)=true:=by simpa using hno
 clear hno
 go_enter Tryz.func17,Tryz.ntmps17
 go_wp2_with fail
 refine (HM.out _ (((Gr.refl _).alloc _).alloc _)).mono ?_
 rintro e w1 ⟨rfl,G1⟩
 have HG1:Hid (Gr w w1):=(((Gr.refl _).alloc _).alloc _).trans G1
 have HB:Hid (w1.heap[w.heap.size+1]?=some (.cells #[.slice none 0 0,.slice none 0 0,.slice none 0 0,.int .i64 0] 59 (0,0))):=(two_of G1).2
 clear G1 HM
 have HI:Hid ((Tryz.prog.info? 59).map (·.size)=some 4):=iB
 go_wp2_with (refine wpList_store_row rfl 59 _ _ rfl (w.heap.size+1) #[.slice none 0 0,.slice none 0 0,.slice none 0 0,.int .i64 0] rfl rfl 59 _ ?hb HI.out rfl (by kernel_rfl) ?_;(case hb=>exact HB.out))
 refine bodyPost_ret (v:=.tuple #[.agg _,.int .i64 E]) (Hr.results_cell_tmp' Tryz.results17 _ _ _ _ _ (0,0) _ _ rfl rfl (setRow_heap _ _ _ _ _ (0,0) HB.out) Tryz.underlying59 rfl HI.out) rfl ⟨rfl,?_⟩
 exact gr_setRow HG1.out (Nat.le_succ _) _
theorem clone_own {ma:Option Addr}{mc:Nat}{m:List UInt8}{w:World}{mn:Nat}(M:Mem w ma mn m)(hcap:ma=none→mc=0)(hn:mn≤4096):
  Calls Tryz.prog 30 #[.slice ma mn mc] w fun e w'=>∃a c,e=.returned (.slice a mn c)∧Own w' 0 (.slice a mn c) m∧Gr w w':=
 (Clone_any M hcap (by omega)).mono fun e w' ⟨v,e1,e2,e3⟩=>by
  obtain ⟨a,c,rfl,_⟩:=e2.mem
  have:=M.len
  rw [this] at e1 e2
  exact ⟨a,c,e1,e2.base (w':=w') (Nat.zero_le _),e3⟩
theorem NewBoard_yes {ma ha pa:Option Addr}{hn pn:Nat}(mc hc pc:Nat){m:List UInt8}{hs:List Hv}{ps:List (Int×Int)}{w:World}(mn:Nat)(M:Mem w ma mn m)(hcap:ma=none→mc=0)(H:Hs w ha hn hs)(P:Ps w pa pn ps)(b3:pn≤140737488351232)(hy:wrong m hs ps=0)(b1:mn≤4096)(b2:1≤hn)(b4:hn≤4):
  Calls Tryz.prog 17 #[.agg #[.slice ma mn mc,.slice ha hn hc],.slice pa pn pc] w fun e w'=>∃a c gh hc,e=.returned (.tuple #[.agg #[.slice a mn c,.slice (some ⟨gh,0,none⟩) hn hc,.slice none 0 0,.int .i64 0],.int .i64 0])∧Own w' 0 (.slice a mn c) m∧w.heap.size≤gh∧HRow w' gh hs∧Gr w w':=by
 have HM:Hid (∀W:World,Gr w W→Calls Tryz.prog 29 #[.agg #[.slice ma mn mc,.slice ha hn hc],.slice pa pn pc] W fun e w'=>e=.returned (.int .i64 0)∧Gr W w'):=fun W G=>by rw [←hy];exact pwrong_any mc hc pc mn M.len (H.of G) (P.of G) (by omega) (by omega) b3
 obtain ⟨b,o,rfl,_,_⟩:=H.spot (by omega)
 have C1:Hid (∀W:World,Gr w W→_):=fun W G=>clone_own (M.of G) hcap b1
 have C2:Hid (∀W:World,Gr w W→Calls Tryz.prog 31 #[.slice (some ⟨b,o,none⟩) hn hc] W fun e w'=>∃g c,e=.returned (.slice (some ⟨g,0,none⟩) hn c)∧w.heap.size≤g∧HRow w' g hs∧Gr W w'):=fun W G=>(HClone_any hc (H.of G) b2 b4).mono fun e w' ⟨g,c,e1,e2,e3⟩=>⟨g,c,e1,Nat.le_trans G.size e2,e3⟩
 clear H P hy M hcap
 go_enter Tryz.func17,Tryz.ntmps17
 go_wp2_with fail
 refine (HM.out _ (((Gr.refl _).alloc _).alloc _)).mono ?_
 rintro e w1 ⟨rfl,G1⟩
 have HG1:Hid (Gr w w1):=(((Gr.refl _).alloc _).alloc _).trans G1
 have HA:Hid (w1.heap[w.heap.size]?=some (.cells #[.slice ma mn mc,.slice (some ⟨b,o,none⟩) hn hc] 25 (0,0))):=(two_of G1).1
 have HB:Hid (w1.heap[w.heap.size+1]?=some (.cells #[.slice none 0 0,.slice none 0 0,.slice none 0 0,.int .i64 0] 59 (0,0))):=(two_of G1).2
 have k0:=cr0 HA.out
 have k1:=cr1 HA.out
 clear G1 HM
 go_wp2_with fail
 have hlt:w.heap.size<w1.heap.size:=(gs HA.out).1
 have hne:w1.heap.size≠w.heap.size:=by omega
 go_region_held3 (fun W=>W.cell? ⟨w.heap.size,0,none⟩=some (.slice ma mn mc)∧W.cell? ⟨w.heap.size,1,none⟩=some (.slice (some ⟨b,o,none⟩) hn hc)) (first|go_keep|(constructor<;>assumption)) (first
  | (go_at_call 30;refine (C1.out _ (by repeat (first|exact HG1.out|refine Gr.drew ?_|refine Gr.alloc ?_ _))).mono ?_;rintro e w2 ⟨a2,c2,rfl,O2,G2⟩;have HO2:Hid (Own w2 0 (.slice a2 mn c2) m):=O2;have HG2:Hid (Gr w1 w2):=Gr.trans (by repeat (first|exact Gr.refl w1|refine Gr.drew ?_|refine Gr.alloc ?_ _)) G2;have HC2:Hid (w2.heap[w1.heap.size]?=some (.cells #[.slice none 0 0,.slice none 0 0,.slice none 0 0,.int .i64 0] 59 (0,0))):=Hr.heap_of_gr ((Gr.refl (w1.alloc _)).drew.trans G2) (heap_alloc_new w1 _);have q0:w2.cell? ⟨w.heap.size,0,none⟩=some (.slice ma mn mc):=cr (Hr.heap_of_gr HG2.out HA.out);have q1:w2.cell? ⟨w.heap.size,1,none⟩=some (.slice (some ⟨b,o,none⟩) hn hc):=cr (Hr.heap_of_gr HG2.out HA.out);clear G2 O2 k0 k1 C1)
  | (go_at_call 31;refine (C2.out _ (by repeat (first|exact HG1.out.trans HG2.out|refine Gr.drew ?_|refine Gr.alloc ?_ _))).mono ?_;rintro e w3 ⟨g3,c3,rfl,hg3,R3,G3⟩;have HR3:Hid (HRow w3 g3 hs):=R3;have HO3:Hid (Own w3 0 (.slice a2 mn c2) m):=own_gr HO2.out G3;have HG3:Hid (Gr w1 w3):=HG2.out.trans G3;have HC3:Hid (w3.heap[w1.heap.size]?=some (.cells #[.slice none 0 0,.slice none 0 0,.slice none 0 0,.int .i64 0] 59 (0,0))):=Hr.heap_of_gr G3 HC2.out;have q3:w3.cell? ⟨w.heap.size,0,none⟩=some (.slice ma mn mc):=cr (Hr.heap_of_gr HG3.out HA.out);have q4:w3.cell? ⟨w.heap.size,1,none⟩=some (.slice (some ⟨b,o,none⟩) hn hc):=cr (Hr.heap_of_gr HG3.out HA.out);have z0:w3.cell? ⟨w1.heap.size,0,none⟩=some (.slice none 0 0):=cr HC3.out;have z1:w3.cell? ⟨w1.heap.size,1,none⟩=some (.slice none 0 0):=cr HC3.out;have z2:w3.cell? ⟨w1.heap.size,2,none⟩=some (.slice none 0 0):=cr HC3.out;have z3:w3.cell? ⟨w1.heap.size,3,none⟩=some (.int .i64 0):=cr HC3.out;have f0:w3.frozen? ⟨w1.heap.size,0,none⟩=false:=fzr HC3.out;have f1:w3.frozen? ⟨w1.heap.size,1,none⟩=false:=fzr HC3.out;clear G3 R3 C2 q0 q1 HO2 HG2 HC2))
 have hlt2:w.heap.size+1<w1.heap.size:=(gs HB.out).1
 have HB3:Hid (w3.heap[w.heap.size+1]?=some (.cells #[.slice none 0 0,.slice none 0 0,.slice none 0 0,.int .i64 0] 59 (0,0))):=Hr.heap_of_gr HG3.out HB.out
 have hne2:w1.heap.size≠w.heap.size+1:=by omega
 have HI:Hid _:=iB
 go_wp2_with (refine wpList_store_row rfl 59 _ _ rfl (w.heap.size+1) #[.slice a2 mn c2,.slice (some ⟨g3,0,none⟩) hn c3,.slice none 0 0,.int .i64 0] rfl rfl 59 #[.slice none 0 0,.slice none 0 0,.slice none 0 0,.int .i64 0] ?hb HI.out rfl (one_bd _ _ _ _ _ _ _ _ _ _) ?_;(case hb=>(rw [hso (by exact hne2.symm),hso (by exact hne2.symm)];exact HB3.out)))
 refine bodyPost_ret (v:=.tuple #[.agg _,.int .i64 0]) (Hr.results_cell_tmp' Tryz.results17 _ _ _ _ _ (0,0) _ _ rfl rfl (srh (by rw [hso (by exact hne2.symm),hso (by exact hne2.symm)];exact HB3.out)) Tryz.underlying59 rfl HI.out) rfl ?_
 have ne:∀(t:Nat) (k:Nat) (q:Array Value) (f:Nat×Nat),t≠59→w3.heap[k]?=some (.cells q t f)→(((w3.setCell ⟨w1.heap.size,0,none⟩ (.slice a2 mn c2)).setCell ⟨w1.heap.size,1,none⟩ (.slice (some ⟨g3,0,none⟩) hn c3)).setRow (w.heap.size+1) #[.slice a2 mn c2,.slice (some ⟨g3,0,none⟩) hn c3,.slice none 0 0,.int .i64 0]).heap[k]?=w3.heap[k]?:=fun t k q f ht hk=>by
  have n1:k≠w1.heap.size:=ne_of_types hk HC3.out ht
  have n2:k≠w.heap.size+1:=ne_of_types hk HB3.out ht
  rw [sro n2,hso (by exact n1),hso (by exact n1)]
 refine ⟨a2,c2,g3,c3,rfl,HO3.out.to fun k q f hk=>ne _ k q f (by decide) hk,hg3,?_,?_⟩
 ·obtain ⟨rest,hr⟩:=HR3.out.row
  exact ⟨HR3.out.ok,rest,(ne _ _ _ _ (by decide) hr).trans hr⟩
 ·exact gr_setRow (((HG1.out.trans HG3.out).setCell (Nat.le_of_lt hlt) _).setCell (Nat.le_of_lt hlt) _) (Nat.le_succ _) _
end Go.Proofs.YtchllaeembmioaaGreatDoor.Mc
namespace Go.Proofs.YtchllaeembmioaaGreatDoor.Hc
open Go.ChangeShapes Go.WideShapes Go.ChangeAt Go.RowKit Mm Hh
abbrev Ptr (g:Nat):Value:=.pointer (some ⟨g,0,none⟩)
def ret2 (r:Option Int):Value:=.tuple #[.int .u32 (r.getD 0),.bool r.isSome]
end Go.Proofs.YtchllaeembmioaaGreatDoor.Hc
namespace Go.Proofs.YtchllaeembmioaaGreatDoor.Hc
open Go.ChangeShapes Go.WideShapes Go.ChangeAt Go.RowKit Mm Hh

variable {w : World} {base g : Nat} {h : Hv} {l : List UInt8} {os : List Int} {ss : List (Int × Int)}
end Go.Proofs.YtchllaeembmioaaGreatDoor.Hc
namespace Go.Proofs.YtchllaeembmioaaGreatDoor.Hc
open Go.ChangeShapes Go.WideShapes Go.ChangeAt Go.RowKit Mm Hh

end Go.Proofs.YtchllaeembmioaaGreatDoor.Hc
namespace Go.Proofs.YtchllaeembmioaaGreatDoor.Bk
open Go.ChangeShapes Go.WideShapes Go.ChangeAt Go.RowKit Mm Hh

def insC (x:Int):List Value:=[.int .i64 (Dc.dop x),.int .i64 (Dc.rdF (Dc.frm (Dc.dop x)) x),.int .i64 (Dc.rs1F (Dc.frm (Dc.dop x)) x),.int .i64 (Dc.rs2F (Dc.frm (Dc.dop x)) x),.int .i32 (Dc.immF (Dc.frm (Dc.dop x)) x)]
def blC (xs:List Int):List Value:=xs.flatMap insC
theorem blC_snoc (xs:List Int)(x:Int):blC (xs++[x])=blC xs++insC x:=by simp [blC]
theorem blC_get:∀(xs:List Int) (i j:Nat) (x:Int),xs[i]?=some x→j<5→(blC xs)[i*5+j]?=(insC x)[j]?
 | [],i,j,x,h,_=>by simp at h
 | p::r,0,j,x,h,hj=>by
  simp at h;subst h
  show (insC p++blC r)[0*5+j]?=_
  rw [Nat.zero_mul,Nat.zero_add,List.getElem?_append_left (by simpa [insC] using hj)]
 | p::r,i+1,j,x,h,hj=>by
  have ih:=blC_get r i j x (by simpa using h) hj
  show (insC p++blC r)[(i+1)*5+j]?=_
  rw [List.getElem?_append_right (by simp [insC];omega)]
  rw [show (i+1)*5+j-(insC p).length=i*5+j by simp [insC];omega]
  exact ih
end Go.Proofs.YtchllaeembmioaaGreatDoor.Bk
namespace Go.Proofs.YtchllaeembmioaaGreatDoor.Hf
open Go.ChangeShapes Go.WideShapes Go.ChangeAt Go.RowKit Mm Hh

theorem five_set {W:World}{g t:Nat}{z0 z1 z2 z3 z4:Value}(h:W.heap[g]?=some (.cells #[z0,z1,z2,z3,z4] t (0,0)))(a b c d e:Value)(o:Obj):
  ((((((W.setCell ⟨g,0,none⟩ a).setCell ⟨g,1,none⟩ b).setCell ⟨g,2,none⟩ c).setCell ⟨g,3,none⟩ d).setCell ⟨g,4,none⟩ e).alloc o).heap[g]?=some (.cells #[a,b,c,d,e] t (0,0)):=by
 have h0:=heap_setCell_same W g 0 _ _ a h
 have h1:=heap_setCell_same _ g 1 _ _ b h0
 have h2:=heap_setCell_same _ g 2 _ _ c h1
 have h3:=heap_setCell_same _ g 3 _ _ d h2
 have h4:=heap_setCell_same _ g 4 _ _ e h3
 exact (((Gr.refl _).alloc o).block _ (gs h4).1).trans h4
theorem ins_one (x0 x1 x2 x3 x4:Int):(#[.int .i64 x0,.int .i64 x1,.int .i64 x2,.int .i64 x3,.int .i32 x4]:Array Value).all (·.oneCell')=true:=by
 refine all_oneCell_toArray (cs:=[.int .i64 x0,.int .i64 x1,.int .i64 x2,.int .i64 x3,.int .i32 x4]) ?_
 intro u hu
 simp only [List.mem_cons,List.not_mem_nil,or_false] at hu
 rcases hu with rfl|rfl|rfl|rfl|rfl<;>rfl
theorem iI:(Tryz.prog.info? 77).map (·.size)=some 5:=by kernel_rfl
theorem results_cell_tmp1 {P:Program}{fn:Func}{p t:Tmp}{ty:TypeId}(h:fn.results=#[.cell p ty,.tmp t])(tmps:Array Value)(w:World)(g:Nat)(tt:TypeId)(cs:Array Value)(fr:Nat×Nat)(d:TypeDesc)
  (v:Value)(hp:tmps.getD p undef=.pointer (some ⟨g,0,none⟩))(hv:tmps.getD t undef=v)(hg:w.heap[g]?=some (.cells cs tt fr))
  (hu:P.underlying ty=some d)(hd:(match d with|.struct _|.array _ _=>true|_=>false)=true)(hi:(P.info? ty).map (·.size)=some cs.size):
  (results fn tmps).run P w=.ok (.tuple #[.agg cs,v]) w:=by
 subst hv
 have hp':tmps[p]?.getD undef=.pointer (some ⟨g,0,none⟩):=by simpa using hp
 simp [results,h,hp',asAddr,run_loadVar_row w g tt ty cs fr d hg hu hd hi]
theorem Fetch_any {w:World}{ao:Option Addr}{n:Nat}(cap:Nat){l:List UInt8}(pc:Int)(M:Mem w ao n l)(T:Dw.Tab w)(hn:n≤140737488351232)(h0:0≤pc)(h1:pc<4294967296):
  Calls Tryz.prog 66 #[.slice ao n cap,.int .u32 pc] w fun e w'=>e=.returned (.tuple #[Dw.decV (ldV l 13 pc),.int .i64 (Bk.ftC l pc)])∧Gr w w':=by
 have L:Hid (∀W:World,Gr w W→Calls Tryz.prog 85 #[.slice ao n cap,.int .i64 13,.int .u32 pc] W fun e w'=>e=.returned (.tuple #[.int .u32 (ldV l 13 pc),.bool (ldOk l 13 pc)])∧w'=W):=fun W G=>Mm.Load_any cap 13 pc (M.of G) hn h0 h1
 have wx:=W.ldV l 13 pc
 have HT:Hid (∀W:World,Gr w W→Dw.Tab W):=fun W G=>⟨fun i v e=>(G.cell _ (by exact Dw.lt_of_cell (T.shapes i v e))).trans (T.shapes i v e),fun i v e=>(G.cell _ (by exact Dw.lt_of_cell (T.uppers i v e))).trans (T.uppers i v e)⟩
 have D:Hid (∀W:World,Gr w W→Calls Tryz.prog 86 #[.int .u32 (ldV l 13 pc)] W fun e w'=>e=.returned (.tuple #[Dw.decV (ldV l 13 pc),.bool (Dw.decOk (ldV l 13 pc))])∧Gr W w'):=fun W G=>(Dw.Decode_any _ W (HT.out W G) wx.1 wx.2).mono fun e w' h=>⟨h.1,h.2.1⟩
 have E1:Hid (ldOk l 13 pc=false→ldV l 13 pc=0):=Bk.ldV_no
 have E2:Hid (Bk.ftC l pc=if ldOk l 13 pc=true then (if Dc.dop (ldV l 13 pc)=0 then 2 else 0) else 1):=rfl
 generalize ldV l 13 pc=x at *
 generalize ldOk l 13 pc=B at *
 generalize Bk.ftC l pc=c at *
 clear M T HT wx
 cases B with
 | false=>
  have e1:=E1.out rfl
  have e2:c=1:=E2.out
  subst e1 e2
  have e3:=(Dw.dec_none Bk.dop0).1
  rw [e3]
  clear E1 E2 D e3
  unfold Dw.insV
  go_enter Tryz.func66,Tryz.ntmps66
  go_wp2_with fail
  refine (L.out _ ((Gr.refl _).alloc _)).mono ?_
  rintro e w1 ⟨rfl,rfl⟩
  clear L
  go_wp2_with (refine wpList_store_row rfl 77 _ _ rfl w.heap.size #[.int .i64 0,.int .i64 0,.int .i64 0,.int .i64 0,.int .i32 0] rfl rfl 77 _ (heap_alloc_new w _) iI rfl rfl ?_)
  refine bodyPost_ret (v:=.tuple #[.agg #[.int .i64 0,.int .i64 0,.int .i64 0,.int .i64 0,.int .i32 0],.int .i64 1]) (results_cell_tmp1 Tryz.results66 _ _ _ _ _ (0,0) _ _ rfl rfl (heap_alloc_new w _) Tryz.underlying77 rfl iI) rfl ⟨rfl,?_⟩
  exact (Gr.refl _).alloc _
 | true=>
  by_cases hd:Dc.dop x=0
  ·have e2:c=2:=by rw [E2.out,if_pos rfl,if_pos hd]
   obtain ⟨d1,d2⟩:=Dw.dec_none hd
   rw [d1,d2] at D
   rw [d1]
   unfold Dw.insV at D ⊢
   subst e2
   clear E1 E2 d1 d2 hd
   go_enter Tryz.func66,Tryz.ntmps66
   go_wp2_with fail
   refine (L.out _ ((Gr.refl _).alloc _)).mono ?_
   rintro e w1 ⟨rfl,rfl⟩
   clear L
   go_wp2_with fail
   refine (D.out _ ((Gr.refl _).alloc _)).mono ?_
   rintro e w1 ⟨rfl,G1⟩
   have HB:Hid (w1.heap[w.heap.size]?=some (.cells #[.int .i64 0,.int .i64 0,.int .i64 0,.int .i64 0,.int .i32 0] 77 (0,0))):=(G1.block _ (by simp)).trans (heap_alloc_new w _)
   have HG1:Hid (Gr w w1):=((Gr.refl _).alloc _).trans G1
   have hlt:w.heap.size<w1.heap.size:=(Array.getElem?_eq_some_iff.1 HB.out).1
   have r0:w1.cell? ⟨w.heap.size,0,none⟩=some (.int .i64 0):=cell_of_row _ _ _ _ _ _ HB.out
   have r1:w1.cell? ⟨w.heap.size,1,none⟩=some (.int .i64 0):=cell_of_row _ _ _ _ _ _ HB.out
   have r2:w1.cell? ⟨w.heap.size,2,none⟩=some (.int .i64 0):=cell_of_row _ _ _ _ _ _ HB.out
   have r3:w1.cell? ⟨w.heap.size,3,none⟩=some (.int .i64 0):=cell_of_row _ _ _ _ _ _ HB.out
   have r4:w1.cell? ⟨w.heap.size,4,none⟩=some (.int .i32 0):=cell_of_row _ _ _ _ _ _ HB.out
   have f3:∀j,w1.frozen? ⟨w.heap.size,j,none⟩=false:=fun j=>frozen_of_row _ _ _ _ _ HB.out
   clear G1 D
   go_wp2_with fail
   refine bodyPost_ret (v:=.tuple #[.agg #[.int .i64 0,.int .i64 0,.int .i64 0,.int .i64 0,.int .i32 0],.int .i64 2]) (results_cell_tmp1 Tryz.results66 _ _ _ _ _ (0,0) _ _ rfl rfl (five_set HB.out _ _ _ _ _ _) Tryz.underlying77 rfl iI) rfl ⟨rfl,?_⟩
   exact (((((HG1.out.setCell (by simp) _).setCell (by simp) _).setCell (by simp) _).setCell (by simp) _).setCell (by simp) _).alloc _
  ·have e2:c=0:=by rw [E2.out,if_pos rfl,if_neg hd]
   have d2:Dw.decOk x=true:=by unfold Dw.decOk;simp [hd]
   rw [d2] at D
   unfold Dw.decV Dw.insV at D ⊢
   subst e2
   clear E1 E2 d2 hd
   generalize Dc.rdF (Dc.frm (Dc.dop x)) x=x1 at *
   generalize Dc.rs1F (Dc.frm (Dc.dop x)) x=x2 at *
   generalize Dc.rs2F (Dc.frm (Dc.dop x)) x=x3 at *
   generalize Dc.immF (Dc.frm (Dc.dop x)) x=x4 at *
   generalize Dc.dop x=x0 at *
   go_enter Tryz.func66,Tryz.ntmps66
   go_wp2_with fail
   refine (L.out _ ((Gr.refl _).alloc _)).mono ?_
   rintro e w1 ⟨rfl,rfl⟩
   clear L
   go_wp2_with fail
   refine (D.out _ ((Gr.refl _).alloc _)).mono ?_
   rintro e w1 ⟨rfl,G1⟩
   have HB:Hid (w1.heap[w.heap.size]?=some (.cells #[.int .i64 0,.int .i64 0,.int .i64 0,.int .i64 0,.int .i32 0] 77 (0,0))):=(G1.block _ (by simp)).trans (heap_alloc_new w _)
   have HG1:Hid (Gr w w1):=((Gr.refl _).alloc _).trans G1
   have hlt:w.heap.size<w1.heap.size:=(Array.getElem?_eq_some_iff.1 HB.out).1
   have r0:w1.cell? ⟨w.heap.size,0,none⟩=some (.int .i64 0):=cell_of_row _ _ _ _ _ _ HB.out
   have r1:w1.cell? ⟨w.heap.size,1,none⟩=some (.int .i64 0):=cell_of_row _ _ _ _ _ _ HB.out
   have r2:w1.cell? ⟨w.heap.size,2,none⟩=some (.int .i64 0):=cell_of_row _ _ _ _ _ _ HB.out
   have r3:w1.cell? ⟨w.heap.size,3,none⟩=some (.int .i64 0):=cell_of_row _ _ _ _ _ _ HB.out
   have r4:w1.cell? ⟨w.heap.size,4,none⟩=some (.int .i32 0):=cell_of_row _ _ _ _ _ _ HB.out
   have f3:∀j,w1.frozen? ⟨w.heap.size,j,none⟩=false:=fun j=>frozen_of_row _ _ _ _ _ HB.out
   clear G1 D
   go_wp2_with fail
   refine bodyPost_ret (v:=.tuple #[.agg #[.int .i64 x0,.int .i64 x1,.int .i64 x2,.int .i64 x3,.int .i32 x4],.int .i64 0]) (results_cell_tmp1 Tryz.results66 _ _ _ _ _ (0,0) _ _ rfl rfl (five_set HB.out _ _ _ _ _ _) Tryz.underlying77 rfl iI) rfl ⟨rfl,?_⟩
   exact (((((HG1.out.setCell (by simp) _).setCell (by simp) _).setCell (by simp) _).setCell (by simp) _).setCell (by simp) _).alloc _
end Go.Proofs.YtchllaeembmioaaGreatDoor.Hf
namespace Go.Proofs.YtchllaeembmioaaGreatDoor.Hc
open Go.ChangeShapes Go.WideShapes Go.ChangeAt Go.RowKit Mm Hh

variable {w w' : World} {base g : Nat} {h : Hv} {l : List UInt8} {os : List Int} {ss : List (Int × Int)}
structure TT (w:World) (base:Nat):Prop where
 tab:Dw.Tab w
 tb:Tb w base
 b1:0<base
 b2:5<base
theorem TT.of (T:TT w base)(h:Fr base w w'):TT w' base:=
 ⟨⟨fun i n e=>(Below.cell h.below (by exact T.b1)).trans (T.tab.shapes i n e),fun i n e=>(Below.cell h.below (by exact T.b2)).trans (T.tab.uppers i n e)⟩,T.tb.of h,T.b1,T.b2⟩
theorem held_store_row {P:Program}{md:Region.Mode}{ops:Array Oper}{Q:Exit→Act→World→Prop}{S:World→Prop}{fuel i:Nat}{listed:Array Bool}{o:Oper}{a:Act}(hr:Region.ready md ops listed=[i])(hoi:ops[i]?=some o)(hg:o.guard=none)(ty:TypeId)(x y:Operand)(ho:o.op=.store ty x y)
  (g:Nat)(cells:Array Value)(hx:a.eval x=.pointer (some ⟨g,0,none⟩))(hy:a.eval y=.agg cells)(t:TypeId)(old:Array Value)(hb:w.heap[g]?=some (.cells old t (0,0)))(hi:(P.info? ty).map (·.size)=some cells.size)(hold:old.size=cells.size)(h1:cells.all (·.oneCell')=true)
  (hS:S (w.setRow g cells))(h:wpAnyH P md ops Q S fuel (listed.setIfInBounds i true) (a.put o.dst undef) (w.setRow g cells)):wpAnyH P md ops Q S (fuel+1) listed a w:=
 wpAnyH_ready hr (by simp) (AllReadyH.cons hoi (fun K hK=>step_store hg ty x y ho g cells hx hy t old hb hi hold h1 (hK.out _ _ hS fun _=>h)) AllReadyH.nil)
theorem at_world {p:World→Prop}{x:World}(F:World→Prop)(hF:F x)(h:∀y,F y→p y):p x:=h x hF
theorem heap_gr (g:Gr w w'){k:Nat}{x:Obj}(h:w.heap[k]?=some x):w'.heap[k]?=some x:=by
 rw [Below.block g k (gs h).1];exact h
theorem stp_no (hc:¬Bk.ftC l h.pc=0):stp h l=⟨h.trap (Bk.ftC l h.pc),l,[],[]⟩:=by
 unfold stp Bk.ftC at *
 by_cases ok:ldOk l 13 h.pc=true
 ·rw [if_pos ok] at hc ⊢
  rw [if_pos ok]
  by_cases hd:Dc.dop (ldV l 13 h.pc)=0
  ·rw [if_pos hd];unfold insW;rw [if_pos hd]
  ·rw [if_neg hd] at hc;exact absurd rfl hc
 ·rw [if_neg ok,if_neg ok]
theorem Step_gen {w:World}{base g:Nat}{h:Hv}{l:List UInt8}{os:List Int}{ss:List (Int×Int)}(I:In w base g h l os ss)(T:TT w base)(hl:l.length≤140737488351232)
  (DO:Bk.ftC l h.pc=0→∀W,In W base g h l os ss→Tb W base→Calls Tryz.prog 68 #[.pointer (some ⟨g,0,none⟩),Dw.decV (ldV l 13 h.pc)] W fun e w'=>e=.returned (.tuple #[])∧In w' base g (stp h l).h (stp h l).m (os++(stp h l).out) (ss++(stp h l).sto)∧Fr base W w'):
  Calls Tryz.prog 50 #[.pointer (some ⟨g,0,none⟩)] w fun e w'=>e=.returned (.tuple #[])∧In w' base g (stp h l).h (stp h l).m (os++(stp h l).out) (ss++(stp h l).sto)∧Fr base w w':=by
 have Tr:Hid (∀W,In W base g h l os ss→∀c,Calls Tryz.prog 67 #[.pointer (some ⟨g,0,none⟩),.int .i64 c] W fun e w'=>e=.returned (.tuple #[])∧In w' base g (h.trap c) l os ss∧Ch g W w'):=fun W I c=>trap_any I c
 have HD:Hid _:=DO
 clear DO
 have HI:Hid (In w base g h l os ss):=I
 have HT:Hid (TT w base):=T
 obtain ⟨c0,rfl,J⟩:=I
 obtain ⟨ao,cap,hm,M⟩:=J.mem.mem
 have k37:w.cell? ⟨g,37,none⟩=some (.slice ao l.length cap):=(J.fcell 0).trans (by rw [hm];rfl)
 have k32:w.cell? ⟨g,32,none⟩=some (.int .u32 c0.h.pc):=(J.hcell (by omega)).trans (hL_fld J.ok 0)
 have hbl:base≤w.heap.size:=J.base_le
 have hgl:g<w.heap.size:=J.lt
 have F:Hid (∀W:World,Gr w W→Calls Tryz.prog 66 #[.slice ao l.length cap,.int .u32 c0.h.pc] W fun e w'=>e=.returned (.tuple #[Dw.decV (ldV l 13 c0.h.pc),.int .i64 (Bk.ftC l c0.h.pc)])∧Gr W w'):=fun W G=>Hf.Fetch_any cap c0.h.pc (M.of G) (T.of (Fr.ofGr G hbl)).tab hl J.ok.pc0 J.ok.pc1
 have HS13:Hid (∀W:World,Gr w W→W.cell? ⟨g,37,none⟩=some (.slice ao l.length cap)∧W.cell? ⟨g,32,none⟩=some (.int .u32 c0.h.pc)):=fun W G=>⟨(G.cell _ (by exact hgl)).trans k37,(G.cell _ (by exact hgl)).trans k32⟩
 have HN:Hid (¬Bk.ftC l c0.h.pc=0→stp c0.h l=⟨c0.h.trap (Bk.ftC l c0.h.pc),l,[],[]⟩):=stp_no
 unfold Dw.decV Dw.insV at F HD
 generalize ldV l 13 c0.h.pc=x at *
 generalize stp c0.h l=Z at *
 clear J M hm T
 generalize Dc.rdF (Dc.frm (Dc.dop x)) x=x1 at *
 generalize Dc.rs1F (Dc.frm (Dc.dop x)) x=x2 at *
 generalize Dc.rs2F (Dc.frm (Dc.dop x)) x=x3 at *
 generalize Dc.immF (Dc.frm (Dc.dop x)) x=x4 at *
 generalize Dc.dop x=x0 at *
 generalize Bk.ftC l c0.h.pc=c at *
 generalize c0.h.pc=pc at *
 generalize c0.h=h at *
 go_enter Tryz.func50,Tryz.ntmps50
 go_wp2_with fail
 refine wp_region_held_drew (S:=fun W=>W.cell? ⟨g,37,none⟩=some (.slice ao l.length cap)∧W.cell? ⟨g,32,none⟩=some (.int .u32 pc)) (by kernel_rfl) ?_ (fun hHeld=>?_)
 ·exact HS13.out _ (Gr.refl _).drew
 have HS0:Hid _:=hHeld
 clear hHeld
 refine wpAnyH_take (i:=0) (v:=.pointer (some ⟨g,0,none⟩)) rfl (by kernel_rfl) (by kernel_rfl) (by kernel_rfl) (fun _ _ _ h=>h) (Or.inl ⟨by rfl,fun W hW=>by obtain ⟨y0,y1⟩:=hW;go_simp⟩) HS0.out ?_
 simp only [List.getElem_toArray,List.getElem_cons_succ,List.getElem_cons_zero,Act.put,List.setIfInBounds_toArray,List.set_cons_zero,List.set_cons_succ]
 refine wpAnyH_take (i:=1) (v:=.pointer (some ⟨g,0,none⟩)) rfl (by kernel_rfl) (by kernel_rfl) (by kernel_rfl) (fun _ _ _ h=>h) (Or.inl ⟨by rfl,fun W hW=>by obtain ⟨y0,y1⟩:=hW;go_simp⟩) HS0.out ?_
 simp only [List.getElem_toArray,List.getElem_cons_succ,List.getElem_cons_zero,Act.put,List.setIfInBounds_toArray,List.set_cons_zero,List.set_cons_succ]
 refine wpAnyH_take (i:=2) (v:=.pointer (some ⟨g,37,none⟩)) rfl (by kernel_rfl) (by kernel_rfl) (by kernel_rfl) (fun _ _ _ h=>h) (Or.inl ⟨by rfl,fun W hW=>by obtain ⟨y0,y1⟩:=hW;go_simp⟩) HS0.out ?_
 simp only [List.getElem_toArray,List.getElem_cons_succ,List.getElem_cons_zero,Act.put,List.setIfInBounds_toArray,List.set_cons_zero,List.set_cons_succ]
 refine wpAnyH_take (i:=3) (v:=.slice ao l.length cap) rfl (by kernel_rfl) (by kernel_rfl) (by kernel_rfl) (fun _ _ _ h=>h) (Or.inl ⟨by rfl,fun W hW=>by obtain ⟨y0,y1⟩:=hW;go_simp⟩) HS0.out ?_
 simp only [List.getElem_toArray,List.getElem_cons_succ,List.getElem_cons_zero,Act.put,List.setIfInBounds_toArray,List.set_cons_zero,List.set_cons_succ]
 refine wpAnyH_take (i:=4) (v:=.pointer (some ⟨g,0,none⟩)) rfl (by kernel_rfl) (by kernel_rfl) (by kernel_rfl) (fun _ _ _ h=>h) (Or.inl ⟨by rfl,fun W hW=>by obtain ⟨y0,y1⟩:=hW;go_simp⟩) HS0.out ?_
 simp only [List.getElem_toArray,List.getElem_cons_succ,List.getElem_cons_zero,Act.put,List.setIfInBounds_toArray,List.set_cons_zero,List.set_cons_succ]
 refine wpAnyH_take (i:=5) (v:=.pointer (some ⟨g,0,none⟩)) rfl (by kernel_rfl) (by kernel_rfl) (by kernel_rfl) (fun _ _ _ h=>h) (Or.inl ⟨by rfl,fun W hW=>by obtain ⟨y0,y1⟩:=hW;go_simp⟩) HS0.out ?_
 simp only [List.getElem_toArray,List.getElem_cons_succ,List.getElem_cons_zero,Act.put,List.setIfInBounds_toArray,List.set_cons_zero,List.set_cons_succ]
 refine wpAnyH_take (i:=6) (v:=.pointer (some ⟨g,0,none⟩)) rfl (by kernel_rfl) (by kernel_rfl) (by kernel_rfl) (fun _ _ _ h=>h) (Or.inl ⟨by rfl,fun W hW=>by obtain ⟨y0,y1⟩:=hW;go_simp⟩) HS0.out ?_
 simp only [List.getElem_toArray,List.getElem_cons_succ,List.getElem_cons_zero,Act.put,List.setIfInBounds_toArray,List.set_cons_zero,List.set_cons_succ]
 refine wpAnyH_take (i:=7) (v:=.pointer (some ⟨g,32,none⟩)) rfl (by kernel_rfl) (by kernel_rfl) (by kernel_rfl) (fun _ _ _ h=>h) (Or.inl ⟨by rfl,fun W hW=>by obtain ⟨y0,y1⟩:=hW;go_simp⟩) HS0.out ?_
 simp only [List.getElem_toArray,List.getElem_cons_succ,List.getElem_cons_zero,Act.put,List.setIfInBounds_toArray,List.set_cons_zero,List.set_cons_succ]
 refine wpAnyH_take (i:=8) (v:=.int .u32 pc) rfl (by kernel_rfl) (by kernel_rfl) (by kernel_rfl) (fun _ _ _ h=>h) (Or.inl ⟨by rfl,fun W hW=>by obtain ⟨y0,y1⟩:=hW;go_simp⟩) HS0.out ?_
 simp only [List.getElem_toArray,List.getElem_cons_succ,List.getElem_cons_zero,Act.put,List.setIfInBounds_toArray,List.set_cons_zero,List.set_cons_succ]
 refine wpAnyH_ready (rs:=[9,13]) (by kernel_rfl) (by simp) ?_
 refine AllReadyH.cons rfl (fun K hK=>?cf) (AllReadyH.cons rfl (fun K hK=>?af) AllReadyH.nil)
 case cf=>
  go_simp
  refine (F.out _ (Gr.refl _).drew).mono ?_
  rintro e wd ⟨rfl,Gd⟩
  have HGd:Hid (Gr w wd):=(Gr.refl _).drew.trans Gd
  clear Gd
  have HS1:Hid _:=HS13.out _ HGd.out
  refine hK.out _ _ HS1.out (fun hx=>?_)
  clear hK K hx
  refine wpAnyH_take (i:=10) (v:=.tuple #[.agg #[.int .i64 x0,.int .i64 x1,.int .i64 x2,.int .i64 x3,.int .i32 x4],.int .i64 c]) rfl (by kernel_rfl) (by kernel_rfl) (by kernel_rfl) (fun _ _ _ h=>h) (Or.inl ⟨by rfl,fun W hW=>by obtain ⟨y0,y1⟩:=hW;go_simp⟩) HS1.out ?_
  simp only [List.getElem_toArray,List.getElem_cons_succ,List.getElem_cons_zero,Act.put,List.setIfInBounds_toArray,List.set_cons_zero,List.set_cons_succ]
  refine wpAnyH_take (i:=11) (v:=.agg #[.int .i64 x0,.int .i64 x1,.int .i64 x2,.int .i64 x3,.int .i32 x4]) rfl (by kernel_rfl) (by kernel_rfl) (by kernel_rfl) (fun _ _ _ h=>h) (Or.inl ⟨by rfl,fun W hW=>by obtain ⟨y0,y1⟩:=hW;go_simp⟩) HS1.out ?_
  simp only [List.getElem_toArray,List.getElem_cons_succ,List.getElem_cons_zero,Act.put,List.setIfInBounds_toArray,List.set_cons_zero,List.set_cons_succ]
  refine wpAnyH_take (i:=12) (v:=.int .i64 c) rfl (by kernel_rfl) (by kernel_rfl) (by kernel_rfl) (fun _ _ _ h=>h) (Or.inl ⟨by rfl,fun W hW=>by obtain ⟨y0,y1⟩:=hW;go_simp⟩) HS1.out ?_
  simp only [List.getElem_toArray,List.getElem_cons_succ,List.getElem_cons_zero,Act.put,List.setIfInBounds_toArray,List.set_cons_zero,List.set_cons_succ]
  refine wpAnyH_ready (rs:=[13]) (by kernel_rfl) (by simp) ?_
  refine AllReadyH.cons rfl (fun K hK=>?_) AllReadyH.nil
  go_simp
  refine hK.out _ _ (HS13.out _ (HGd.out.alloc _)) (fun hx=>?_)
  clear hK K hx
  refine held_store_row (i:=14) (by kernel_rfl) rfl rfl 77 (.tmp 2) (.tmp 15) rfl wd.heap.size #[.int .i64 x0,.int .i64 x1,.int .i64 x2,.int .i64 x3,.int .i32 x4] (by simp [Act.eval]) (by simp [Act.eval]) 77 _ (heap_alloc_new wd _) Hf.iI rfl (Hf.ins_one _ _ _ _ _) ?_ ?_
  ·exact HS13.out _ (gr_setRow (HGd.out.alloc _) HGd.out.size _)
  refine wpAnyH_take (i:=15) (v:=.int .i64 c) rfl (by kernel_rfl) (by kernel_rfl) (by kernel_rfl) (fun _ _ _ h=>h) (Or.inl ⟨by rfl,fun W hW=>by obtain ⟨y0,y1⟩:=hW;go_simp⟩) (HS13.out _ (gr_setRow (HGd.out.alloc _) HGd.out.size _)) ?_
  simp only [List.getElem_toArray,List.getElem_cons_succ,List.getElem_cons_zero,Act.put,List.setIfInBounds_toArray,List.set_cons_zero,List.set_cons_succ]
  refine wpAnyH_done (by kernel_rfl) ?_ _
  refine at_world (fun W=>W.heap[wd.heap.size]?=some (.cells #[.int .i64 x0,.int .i64 x1,.int .i64 x2,.int .i64 x3,.int .i32 x4] 77 (0,0))∧Gr w W) ?_ ?_
  ·exact ⟨setRow_heap _ _ _ _ _ (0,0) (heap_alloc_new wd _),gr_setRow (HGd.out.alloc _) HGd.out.size _⟩
  clear HGd HS1
  generalize wd.heap.size=gi at *
  clear wd
  clear HS13 HS0 F
  rintro wD ⟨BD,GD⟩
  have q0:wD.cell? ⟨gi,0,none⟩=some (.int .i64 x0):=cell_of_row _ _ _ _ _ _ BD
  have q1:wD.cell? ⟨gi,1,none⟩=some (.int .i64 x1):=cell_of_row _ _ _ _ _ _ BD
  have q2:wD.cell? ⟨gi,2,none⟩=some (.int .i64 x2):=cell_of_row _ _ _ _ _ _ BD
  have q3:wD.cell? ⟨gi,3,none⟩=some (.int .i64 x3):=cell_of_row _ _ _ _ _ _ BD
  have q4:wD.cell? ⟨gi,4,none⟩=some (.int .i32 x4):=cell_of_row _ _ _ _ _ _ BD
  have HID:Hid (In wD base g h l os ss):=HI.out.of GD
  have HFD:Hid (Fr base w wD):=Fr.ofGr GD hbl
  have HTD:Hid (TT wD base):=HT.out.of HFD.out
  clear BD GD HI HT k37 k32
  by_cases hc:c=0
  ·have Do:Hid (∀W,In W base g h l os ss→Tb W base→Calls Tryz.prog 68 #[.pointer (some ⟨g,0,none⟩),.agg #[.int .i64 x0,.int .i64 x1,.int .i64 x2,.int .i64 x3,.int .i32 x4]] W fun e w'=>e=.returned (.tuple #[])∧In w' base g Z.h Z.m (os++Z.out) (ss++Z.sto)∧Fr base W w'):=HD.out hc
   subst hc
   clear HD HN Tr
   go_wp2_with fail
   refine (Do.out _ HID.out HTD.out.tb).mono ?_
   rintro e w2 ⟨rfl,I2,C2⟩
   have HI2:Hid (In w2 base g Z.h Z.m (os++Z.out) (ss++Z.sto)):=I2
   have HF2:Hid (Fr base w w2):=HFD.out.trans C2
   clear I2 C2 Do HID HFD HTD
   go_wp2_with fail
   go_end0
   exact ⟨rfl,HI2.out,HF2.out⟩
  ·have hb:(c == 0)=false:=by simpa using hc
   have HZ:Hid (Z=⟨h.trap c,l,[],[]⟩):=HN.out hc
   clear HD HN hc
   go_wp2_with fail
   refine (Tr.out _ HID.out c).mono ?_
   rintro e w2 ⟨rfl,I2,C2⟩
   have HI2:Hid (In w2 base g Z.h Z.m (os++Z.out) (ss++Z.sto)):=by unfold Hid;rw [HZ.out,List.append_nil,List.append_nil];exact I2
   have HF2:Hid (Fr base w w2):=HFD.out.trans (HID.out.below C2)
   clear I2 C2 Tr HID HFD HTD HZ
   go_wp2_with fail
   refine bodyPost_ret (results_none Tryz.results50 _ _ _) rfl ?_
   exact ⟨rfl,HI2.out,HF2.out⟩
 case af=>
  go_simp
  refine hK.out _ _ (HS13.out _ ((Gr.refl _).alloc _).drew) (fun hx=>?_)
  clear hK K hx
  refine wpAnyH_ready (rs:=[9]) (by kernel_rfl) (by simp) ?_
  refine AllReadyH.cons rfl (fun K hK=>?_) AllReadyH.nil
  go_simp
  refine (F.out _ ((Gr.refl _).alloc _).drew).mono ?_
  rintro e wd ⟨rfl,Gd⟩
  have HNw:Hid (wd.heap[w.heap.size]?=some (.cells _ 77 (0,0))):=heap_gr Gd (heap_gr (Gr.refl _).drew (heap_alloc_new w _))
  have HGd:Hid (Gr w wd):=Gr.trans (Gr.drew ((Gr.refl w).alloc _)) Gd
  clear Gd
  have HS1:Hid _:=HS13.out _ HGd.out
  refine hK.out _ _ HS1.out (fun hx=>?_)
  clear hK K hx
  refine wpAnyH_take (i:=10) (v:=.tuple #[.agg #[.int .i64 x0,.int .i64 x1,.int .i64 x2,.int .i64 x3,.int .i32 x4],.int .i64 c]) rfl (by kernel_rfl) (by kernel_rfl) (by kernel_rfl) (fun _ _ _ h=>h) (Or.inl ⟨by rfl,fun W hW=>by obtain ⟨y0,y1⟩:=hW;go_simp⟩) HS1.out ?_
  simp only [List.getElem_toArray,List.getElem_cons_succ,List.getElem_cons_zero,Act.put,List.setIfInBounds_toArray,List.set_cons_zero,List.set_cons_succ]
  refine wpAnyH_take (i:=11) (v:=.agg #[.int .i64 x0,.int .i64 x1,.int .i64 x2,.int .i64 x3,.int .i32 x4]) rfl (by kernel_rfl) (by kernel_rfl) (by kernel_rfl) (fun _ _ _ h=>h) (Or.inl ⟨by rfl,fun W hW=>by obtain ⟨y0,y1⟩:=hW;go_simp⟩) HS1.out ?_
  simp only [List.getElem_toArray,List.getElem_cons_succ,List.getElem_cons_zero,Act.put,List.setIfInBounds_toArray,List.set_cons_zero,List.set_cons_succ]
  refine wpAnyH_take (i:=12) (v:=.int .i64 c) rfl (by kernel_rfl) (by kernel_rfl) (by kernel_rfl) (fun _ _ _ h=>h) (Or.inl ⟨by rfl,fun W hW=>by obtain ⟨y0,y1⟩:=hW;go_simp⟩) HS1.out ?_
  simp only [List.getElem_toArray,List.getElem_cons_succ,List.getElem_cons_zero,Act.put,List.setIfInBounds_toArray,List.set_cons_zero,List.set_cons_succ]
  refine held_store_row (i:=14) (by kernel_rfl) rfl rfl 77 (.tmp 2) (.tmp 15) rfl w.heap.size #[.int .i64 x0,.int .i64 x1,.int .i64 x2,.int .i64 x3,.int .i32 x4] (by simp [Act.eval]) (by simp [Act.eval]) 77 _ HNw.out Hf.iI rfl (Hf.ins_one _ _ _ _ _) ?_ ?_
  ·exact HS13.out _ (gr_setRow HGd.out (Nat.le_refl _) _)
  refine wpAnyH_take (i:=15) (v:=.int .i64 c) rfl (by kernel_rfl) (by kernel_rfl) (by kernel_rfl) (fun _ _ _ h=>h) (Or.inl ⟨by rfl,fun W hW=>by obtain ⟨y0,y1⟩:=hW;go_simp⟩) (HS13.out _ (gr_setRow HGd.out (Nat.le_refl _) _)) ?_
  simp only [List.getElem_toArray,List.getElem_cons_succ,List.getElem_cons_zero,Act.put,List.setIfInBounds_toArray,List.set_cons_zero,List.set_cons_succ]
  refine wpAnyH_done (by kernel_rfl) ?_ _
  refine at_world (fun W=>W.heap[w.heap.size]?=some (.cells #[.int .i64 x0,.int .i64 x1,.int .i64 x2,.int .i64 x3,.int .i32 x4] 77 (0,0))∧Gr w W) ?_ ?_
  ·exact ⟨setRow_heap _ _ _ _ _ (0,0) HNw.out,gr_setRow HGd.out (Nat.le_refl _) _⟩
  clear HGd HNw HS1
  obtain ⟨gi,hgi⟩:∃g:Nat,g=w.heap.size:=⟨_,rfl⟩
  rw [←hgi]
  clear hgi wd
  clear HS13 HS0 F
  rintro wD ⟨BD,GD⟩
  have q0:wD.cell? ⟨gi,0,none⟩=some (.int .i64 x0):=cell_of_row _ _ _ _ _ _ BD
  have q1:wD.cell? ⟨gi,1,none⟩=some (.int .i64 x1):=cell_of_row _ _ _ _ _ _ BD
  have q2:wD.cell? ⟨gi,2,none⟩=some (.int .i64 x2):=cell_of_row _ _ _ _ _ _ BD
  have q3:wD.cell? ⟨gi,3,none⟩=some (.int .i64 x3):=cell_of_row _ _ _ _ _ _ BD
  have q4:wD.cell? ⟨gi,4,none⟩=some (.int .i32 x4):=cell_of_row _ _ _ _ _ _ BD
  have HID:Hid (In wD base g h l os ss):=HI.out.of GD
  have HFD:Hid (Fr base w wD):=Fr.ofGr GD hbl
  have HTD:Hid (TT wD base):=HT.out.of HFD.out
  clear BD GD HI HT k37 k32
  by_cases hc:c=0
  ·have Do:Hid (∀W,In W base g h l os ss→Tb W base→Calls Tryz.prog 68 #[.pointer (some ⟨g,0,none⟩),.agg #[.int .i64 x0,.int .i64 x1,.int .i64 x2,.int .i64 x3,.int .i32 x4]] W fun e w'=>e=.returned (.tuple #[])∧In w' base g Z.h Z.m (os++Z.out) (ss++Z.sto)∧Fr base W w'):=HD.out hc
   subst hc
   clear HD HN Tr
   go_wp2_with fail
   refine (Do.out _ HID.out HTD.out.tb).mono ?_
   rintro e w2 ⟨rfl,I2,C2⟩
   have HI2:Hid (In w2 base g Z.h Z.m (os++Z.out) (ss++Z.sto)):=I2
   have HF2:Hid (Fr base w w2):=HFD.out.trans C2
   clear I2 C2 Do HID HFD HTD
   go_wp2_with fail
   go_end0
   exact ⟨rfl,HI2.out,HF2.out⟩
  ·have hb:(c == 0)=false:=by simpa using hc
   have HZ:Hid (Z=⟨h.trap c,l,[],[]⟩):=HN.out hc
   clear HD HN hc
   go_wp2_with fail
   refine (Tr.out _ HID.out c).mono ?_
   rintro e w2 ⟨rfl,I2,C2⟩
   have HI2:Hid (In w2 base g Z.h Z.m (os++Z.out) (ss++Z.sto)):=by unfold Hid;rw [HZ.out,List.append_nil,List.append_nil];exact I2
   have HF2:Hid (Fr base w w2):=HFD.out.trans (HID.out.below C2)
   clear I2 C2 Tr HID HFD HTD HZ
   go_wp2_with fail
   refine bodyPost_ret (results_none Tryz.results50 _ _ _) rfl ?_
   exact ⟨rfl,HI2.out,HF2.out⟩
theorem Step_trap (I:In w base g h l os ss)(T:TT w base)(hl:l.length≤140737488351232)(hf:¬Bk.ftC l h.pc=0):
  Calls Tryz.prog 50 #[.pointer (some ⟨g,0,none⟩)] w fun e w'=>e=.returned (.tuple #[])∧In w' base g (stp h l).h (stp h l).m (os++(stp h l).out) (ss++(stp h l).sto)∧Fr base w w':=
 Step_gen I T hl fun hc=>absurd hc hf
end Go.Proofs.YtchllaeembmioaaGreatDoor.Hc
namespace Go.Proofs.YtchllaeembmioaaGreatDoor.Mm
open Go.ChangeShapes Go.WideShapes Go.ChangeAt Go.RowKit

theorem cells5:Tryz.prog.cellsOf 5=1:=by kernel_rfl
theorem bytes5:Tryz.prog.bytesOf 5=1:=by kernel_rfl
theorem laidOut:laidOutB Tryz.prog=true:=by kernel_rfl
theorem own:ownKnob Tryz.prog.godebug=none:=by kernel_rfl
theorem bv_map {Z:List Int}(hz:∀n∈Z,(Lit.int .u8 n).wf=true)(t:Nat)(ht:t<Z.length):bv (Z.map fun z=>UInt8.ofNat z.toNat) t=Z.getD t 0:=by
 have hm:Z[t]∈Z:=List.getElem_mem ht
 have hw:=hz _ hm
 have hb:0≤Z[t]∧Z[t]≤255:=by simpa [Lit.wf,IntKind.min,IntKind.max,IntKind.signed,IntKind.bits] using hw
 unfold bv
 simp only [List.getD,List.getElem?_map,List.getElem?_eq_getElem ht,Option.map_some,Option.getD_some]
 rw [UInt8.toNat_ofNat']
 omega
theorem open_mem {H:Type}{enc:TypeId×Value→H}{W:World}{fuel:Nat}{ao:Option Addr}{len cap:Nat}{d:DataW H}{p:List MemPlace}
  (hf:DataW.trod enc Tryz.prog W 0 (fun _=>true) true fuel 22 (Value.slice ao len cap).cells.toList=some (d,p)):
  ∃l:List UInt8,Mem W ao len l∧(d=.nil∧len=0∨∃zs sp,d=.slice (lits .u8 zs) sp∧zs.length=len):=by
 rcases open_ints Tryz.underlying22 Tryz.underlying5 cells5 hf with ⟨hcs,hx⟩|⟨a,len',cap',zs,hcs,_,hl,hm,hz,hx,hcell,hwz⟩
 ·simp [Value.cells] at hcs
  obtain ⟨rfl,rfl,rfl⟩:=hcs
  simp only [Prod.mk.injEq] at hx
  obtain ⟨rfl,rfl⟩:=hx
  exact ⟨[],Mem.none _,Or.inl ⟨rfl,rfl⟩⟩
 ·simp [Value.cells] at hcs
  obtain ⟨rfl,rfl,rfl⟩:=hcs
  simp only [Prod.mk.injEq] at hx
  obtain ⟨rfl,rfl⟩:=hx
  simp only [if_true] at hz
  refine ⟨(zs.take len).map fun z=>UInt8.ofNat z.toNat,⟨by simp;omega,(fun h=>by cases h),fun ad h t ht=>?_⟩,Or.inr ⟨_,_,rfl,by simp;omega⟩⟩
  obtain rfl:=Option.some.inj h
  rw [hcell t (by omega),bv_map (fun n hn=>hwz n (List.mem_of_mem_take hn)) t (by simp;omega)]
  simp [List.getD,ht]
end Go.Proofs.YtchllaeembmioaaGreatDoor.Mm
namespace Go.Proofs.YtchllaeembmioaaGreatDoor.Hc
open Go.ChangeShapes Go.WideShapes Go.ChangeAt Go.RowKit Mm Hh

variable {v : Value}
end Go.Proofs.YtchllaeembmioaaGreatDoor.Hc
namespace Go.Proofs.YtchllaeembmioaaGreatDoor.Hc
open Go.ChangeShapes Go.WideShapes Go.ChangeAt Go.RowKit Mm Hh

def sizesL:List Int:=[0,0,0,0,0,0,0,0,0,0,0,0,0,0,0,0,1,2,4]
def opersL:List Int:=[0,0,0,0,0,0,0,0,0,0,0,0,0,0,0,0,0,0,0,28,31,32,33,36,37,30,34,35]
theorem gSizes : Tryz.prog.globalNamed "ferrybridge/hart.sizes" = some 4 := by kernel_rfl
theorem gOpers : Tryz.prog.globalNamed "ferrybridge/hart.operations" = some 1 := by kernel_rfl
theorem tSizes:(Tryz.prog.globals[4]?).map (·.type)=some 208:=by kernel_rfl
theorem tOpers:(Tryz.prog.globals[1]?).map (·.type)=some 189:=by kernel_rfl
theorem lookSizes:(List.range 19).map (Dw.look Tryz.prog 3 208 (Rows.laid_ferrybridge_hart_sizes (H:=Unit)))=sizesL.map fun n=>some (.int .u32 n):=by kernel_rfl
theorem lookOpers:(List.range 28).map (Dw.look Tryz.prog 3 189 (Rows.laid_ferrybridge_hart_operations (H:=Unit)))=opersL.map fun n=>some (.int .i64 n):=by kernel_rfl
end Go.Proofs.YtchllaeembmioaaGreatDoor.Hc
