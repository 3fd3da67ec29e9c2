/-
  What is proved: for every memory, every hart that runs where an instruction is, and any number of steps, the small steps that package trans's Make makes of the block there, done by the document, do what so many of the hart's own steps do, within the block; the statement's card, tied to the program's own tables. Conditions: none beyond the card's own.
-/
import Derived.Test.YtkdghgiajifbdaaDoorCards
import Derived.Test.YtkdghgiajifbdaaDoorTie
import Derived.Test.YtkdghgiajifbdaaDoorQ32
import Derived.Test.YtkdghgiajifbdaaDoorQ36
import Derived.Test.YtkdghgiajifbdaaDoorQ16
import Derived.ProofKit
import Derived.SizedLaws
import Derived.LaidMore
import Derived.OpenShut
import Derived.Stop.Joined
import Derived.SevenTiedAt
set_option linter.unusedVariables false
set_option linter.unusedSimpArgs false
set_option maxHeartbeats 8000000
set_option maxRecDepth 100000
namespace Go.Proofs.YtkdghgiajifbdaaDoor.transSame
open Go.ChangeShapes Go.WideShapes Go.ChangeAt Go.RowKit Mm Hc Mi Bk Ts
open Hh hiding Rn

theorem makes {w:World}(T:Dw.Tab w)(Q:Tq w){l:List UInt8}(hl:l.length≤4096)(pc steps:Int):MakesOk w l pc steps:=by
 have hw:=blk_words l pc
 have h16:=(blk_facts l pc 16 0).1
 have hin:∀i∈(blk l pc 16 0).map ivX,i.In:=fun i hi=>by
  obtain ⟨x,hm,rfl⟩:=List.mem_map.1 hi
  obtain ⟨a,b,c⟩:=hw x hm
  exact ivX_in a b c
 have eK:codeV pc ((blk l pc 16 0).map ivX) 0=codeK pc (fun j=>mdV (at4 pc j) (ivX ((blk l pc 16 0).getD j 0))) (blk l pc 16 0).length 0:=by
  have:=codeV_K pc (blk l pc 16 0) (blk l pc 16 0).length 0 (Nat.zero_add _)
  rwa [List.drop_zero] at this
 refine ⟨fun j=>mdV (at4 pc j) (ivX ((blk l pc 16 0).getD j 0)),[],?_,fun j hj=>?_,tail_nil _ _ _ _,fun W b sa sc G O=>?_⟩
 ·rw [List.append_nil,←eK]
  exact codeV_may pc hin (by simpa using h16)
 ·obtain ⟨f1,f2,_⟩:=(blk_facts l pc 16 0).2 j hj
  rw [Nat.zero_add] at f1 f2
  have e:(blk l pc 16 0).getD j 0=ldV l 13 (at4 pc j):=by rw [List.getD,f2];rfl
  have hx:=(ft_zero f1).2
  have hb:=W.ldV l 13 (at4 pc j)
  show BodyOk _ _ _ _ _ (mdV (at4 pc j) (ivX ((blk l pc 16 0).getD j 0)))
  rw [e]
  exact body_of hx (body_md (i:=ivX (ldV l 13 (at4 pc j))) (ivX_in hb.1 hb.2 hx))
 ·rw [List.append_nil,←eK]
  exact Make_words pc sc O hw (tabM T W G) (Q.of G) h16
theorem walk {w:World}{h:Hv}(o:h.Ok)(T:Dw.Tab w)(Q:Tq w){ao:Option Addr}{n:Nat}(cap:Nat){l:List UInt8}(M:Mem w ao n l)(hn:n≤140737488351232)(steps:Int):
  Calls Tryd.prog 6 #[.agg (hA h),.slice ao n cap,.int .i64 steps] w fun e w'=>e=.returned (.bool true)∧Gr w w':=
 tsame_any o cap M hn steps fun h4 _=>makes T Q (by have:=M.len;omega) h.pc steps
theorem lifted (os:Os)(started:os.Started)(H:Type)(enc:TypeId×Value→H):
  ReturnsInHanded {} Tryd.checked os 6 .any (fun w args=>(Rows.transSameSpec.pre enc Tryd.prog Tryd.f6 [] false w args∧laidMetH Tryd.prog laidT w)∧sizedMet enc Tryd.prog Tryd.f6 (OpenSpec.ofChange Rows.transSameSpec) false w args)
   (Rows.transSameSpec.post enc Tryd.prog Tryd.f6 false true false false):=by
 refine returnsInHanded_of_change_and (C:=Tryd.checked) (X:=fun w _=>laidMetH Tryd.prog laidT w) (fun _ _ _ hh h=>h.of_heap hh) own started (by kernel_rfl) Tryd.func6
  (ChangeSpec.witness_shaped (enc:=enc) (C:=Tryd.checked) (os:=os) (X:=fun w _=>laidMetH Tryd.prog laidT w) false (World.doorLaid Tryd.prog 400 os) #[.agg (hA h0),.slice none 0 0,.int .i64 0] 8 rfl (World.shaped_of_RefB (by kernel_rfl) (by kernel_rfl)) (by kernel_rfl) (by kernel_rfl) (by kernel_rfl) (doorT os _)) ?_
 intro W base args ds gs before hval0 hW _ hsz0 hL _
 have hsz:(DataW.weightsEach Tryd.prog (Tryd.f6.params.toList++Rows.transSameSpec.plain.varTypes Tryd.prog) (ds++gs)).all (·≤reachBytes)=true:=hsz0
 clear hsz0
 have hval:∀(j:Nat) t v,Tryd.f6.params[j]?=some t→args[j]?=some v→Value.okWide Tryd.prog W .any base t v:=hval0
 have hW':=hW
 obtain ⟨p,q,hA0,hV,rfl,hfz,hnd⟩:=hW
 have hA:DataW.TrodAll enc Tryd.prog W 0 (fun _=>true) true Tryd.f6.params.toList args.toList ds p:=hA0
 rw [Tryd.params6] at hA hval hsz
 obtain ⟨v0,vs0,d0,ds0,p0,q0,hargs,rfl,rfl,h0,r0⟩:=trodAll_cons hA
 obtain ⟨v1,vs1,d1,ds1,p1,q1,rfl,rfl,rfl,h1,r1⟩:=trodAll_cons r0
 obtain ⟨v2,vs2,d2,ds2,p2,q2,rfl,rfl,rfl,h2,r2⟩:=trodAll_cons r1
 obtain ⟨rfl,rfl,rfl⟩:=trodAll_nil r2
 obtain rfl:args=#[v0,v1,v2]:=by cases args;simp_all
 obtain ⟨rfl,rfl⟩:=trodVars_none hV
 obtain ⟨hh,rfl,oh⟩:=open_hart (hval 0 43 v0 rfl rfl) h0
 obtain ⟨a1,la,ca,rfl⟩:=okWide_slice Tryd.underlying35 (hval 1 35 v1 rfl rfl)
 obtain ⟨st,rfl,rfl,rfl,w2⟩:=open_int Tryd.underlying3 (hval 2 3 v2 rfl rfl) h2
 have h0k:=h0
 have h1k:=h1
 obtain ⟨fa,hfa⟩:=h1
 clear hA0 hval0
 simp only [List.append_nil] at hW'
 have hlt0:∀x∈p0,x.block<W.heap.size:=fun x hx=>by
  have:=hW'.lt x (by simp [hx])
  simpa using this
 have hlt1:∀x∈p1,x.block<W.heap.size:=fun x hx=>by
  have:=hW'.lt x (by simp [hx])
  simpa using this
 obtain ⟨l,M,hd⟩:=open_mem hfa
 have hn:la≤140737488351232:=by
  rcases hd with ⟨_,h⟩|⟨zs,sp,h,hz⟩
  ·rw [h];decide
  ·have:=sized_slice hsz (j:=1) (t:=35) (e:=5) rfl (by rw [h];rfl) Tryd.underlying35
   rw [bytes5] at this
   simp only [lits,List.length_map,hz,reachBytes] at this
   omega
 have tb:=tabsT hL
 refine (walk oh tb.1 tb.2 ca M hn st).mono fun e W' ⟨he,hg⟩=>?_
 subst he
 refine ⟨_,rfl,_,_,_,[],_,[],hW',(trodAll_cons_mk (shut_bool Tryd.underlying4 _) trodAll_mk0),(trodAll_cons_mk (Below.trod laidOut (by kernel_rfl) (of_decide_eq_true (by kernel_rfl)) h0k hg hlt0) (trodAll_cons_mk (Below.trod laidOut (by kernel_rfl) (of_decide_eq_true (by kernel_rfl)) h1k hg hlt1) (trodAll_cons_mk (shut_int Tryd.underlying3 w2) trodAll_mk0))),rfl,Below.frame hg _,fun h=>by cases h⟩
theorem over:Rows.TransSameSaid:=
 OpenClaim.holds_of_wide 6 Tryd.f6 rfl rfl rfl rfl rfl rfl rfl ⟨rfl,rfl,rfl,rfl,rfl⟩ rfl rfl rfl rfl rfl (by kernel_rfl) Tryd.func6 (by kernel_rfl)
  (of_decide_eq_true (by kernel_rfl)) (by unfold Func.isWrapper;first|(rw [if_pos (by decide +kernel)];kernel_rfl)|(rw [if_neg (by decide +kernel)];exact ⟨rfl,rfl⟩))
  (fun os started H enc _=>lifted os started H enc)
theorem proved:Rows.TransSameCardSaid:=
 Claim7.holds_tied_plain_at .later [] [.data,.data,.data] true Rows.transSameCard.stood.harness Rows.transSameCard.stood.looks
  over (fun _ h=>by cases h) (by kernel_rfl) (fun _ h=>by cases h) transSame_row_tie rfl ⟨rfl,rfl⟩ (by kernel_rfl) rfl
  (fun f fn hf hfn=>by
   obtain rfl : f = 6 := Option.some.inj ((show Tryd.prog.funcNamed "ferrybridge/ferrybridgelaw.TransSame" = some 6 by kernel_rfl).symm.trans hf) |>.symm
   obtain rfl:fn=Tryd.f6:=(Option.some.inj (Tryd.func6.symm.trans hfn)).symm
   exact ⟨by kernel_rfl,fun j t ht=>by
    rw [Tryd.params6] at ht
    have hm:t∈[43,35,3]:=by simpa using Array.mem_of_getElem? ht
    have hall:([43,35,3].all fun u=>!Tryd.prog.wantsStandIn u)=true:=by kernel_rfl
    exact (show Tryd.prog.wantsStandIn t=false by simpa using List.all_eq_true.1 hall t hm)⟩)
  (by kernel_rfl)
#print axioms proved
end Go.Proofs.YtkdghgiajifbdaaDoor.transSame
