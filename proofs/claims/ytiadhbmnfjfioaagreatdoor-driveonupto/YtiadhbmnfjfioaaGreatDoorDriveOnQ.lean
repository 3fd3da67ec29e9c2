/-
  What is proved: the answer to a script that ends with a byte 10 is how the answer to it with more behind begins; '?' is answered '?'; the card of the second form ('Upto': what is handed in is of bulk at most 1048576), tied to the program's own tables. Conditions: that bound, and none beyond the card's own.
-/
import Derived.Test.YtiadhbmnfjfioaaGreatDoorCards
import Derived.Test.YtiadhbmnfjfioaaGreatDoorTie
import Derived.Test.YtiadhbmnfjfioaaGreatDoorX18
import Derived.LaidSub
import Derived.SevenTiedAt
import Derived.Deep.DeepWitnessRowRef
set_option linter.unusedVariables false
set_option linter.unusedSimpArgs false
set_option maxHeartbeats 8000000
set_option maxRecDepth 100000
namespace Go.Proofs.YtiadhbmnfjfioaaGreatDoor.driveOnUpto
open Go.ChangeShapes Go.WideShapes Go.ChangeAt Go.RowKit Mm As Vp

theorem own:ownKnob Tryz.prog.godebug=none:=by kernel_rfl
theorem laidOut:laidOutB Tryz.prog=true:=by kernel_rfl
def laid:List (String×DataW Unit):=Rows.driveOnUptoRow.laid
def QO : List String := ["ferrybridge/trans.operations", "ferrybridge/hart.sizes", "ferrybridge/hart.operations", "ferrybridge/micro.rows"]
def QP : List String := ["ferrybridge/decode.shapes", "ferrybridge/decode.uppers", "ferrybridge/trans.operations", "ferrybridge/hart.sizes", "ferrybridge/hart.operations", "ferrybridge/micro.rows"]
theorem ai8:laid.filter (fun x=>!QO.contains x.1)=WH:=by kernel_rfl
def abK : List (String × DataW Unit) := [("ferrybridge/decode.shapes", Rows.laid_ferrybridge_decode_shapes), ("ferrybridge/decode.uppers", Rows.laid_ferrybridge_decode_uppers), ("ferrybridge/trans.operations", Rows.laid_ferrybridge_trans_operations), ("ferrybridge/hart.sizes", Rows.laid_ferrybridge_hart_sizes), ("ferrybridge/hart.operations", Rows.laid_ferrybridge_hart_operations), ("ferrybridge/micro.rows", Rows.laid_ferrybridge_micro_rows)]
theorem ai9:laid.filter (fun x=>QP.contains x.1)=abK:=by kernel_rfl
theorem aeZ {W:World}(h:laidMetH Tryz.prog laid W):T0 W:=by
 letI:Inhabited Hc.bN:=⟨⟨0⟩⟩
 rw[auZ _ _ _ (by kernel_rfl)]at h;have hq:=h.filter (fun x=>!QO.contains x.1);have he:=h.filter (fun x=>QP.contains x.1);rw[ai8]at hq;rw[ai9]at he;rw[<-auZ _ _ _ (by kernel_rfl)]at hq he;obtain⟨a,b⟩:=agn hq;exact⟨En.zm he,a,b⟩
theorem walk (s t:ByteArray)(w:World)(hs:s.size+t.size<=3000000)(T:T0 w):Calls Tryz.prog 4 #[.string s,.string t] w fun e w'=>e=.returned (.bool true)/\Gr w w':=by
 letI:Inhabited Hc.bN:=⟨⟨0⟩⟩
 have:=abI (w:=w) (A:=WB s) (B:=WB t) (Lh s) (Lh t) (by unfold WB;rw[apY,apY,<-Lib.size_eq,<-Lib.size_eq];exact hs) T;rwa[Lf,Lf]at this
theorem room {H:Type}{a b:List UInt8}(hk:Rows.uptoSmall H [.lit (.string a),.lit (.string b)]=true):a.length+b.length<=3000000:=by have h:=ava hk;simp only[Rows.uptoBulkAll,Rows.uptoBulk]at h;omega
theorem contract (H:Type)(enc:TypeId×Value→H)(W:World)(base:Nat)(args:Array Value)(ds gs:List (DataW H))(before:List MemPlace)(hval0:∀(j:Nat) t v,Tryz.f4.params[j]?=some t->args[j]?=some v->Value.okWide Tryz.prog W .any base t v)(hW:DataW.Whole enc Tryz.prog Tryz.f4.params.toList Rows.driveOnSpec.vars false W args.toList ds gs before)(hk:Rows.uptoSmall H (ds++gs)=true)(hL:laidMetH Tryz.prog laid W):Calls Tryz.prog 4 args W fun e W'=>∃v,e=.returned v/\Rows.driveOnSpec.post enc Tryz.prog Tryz.f4 false true false false W args v W':=by
 have hval:=hval0;have hW':=hW;obtain⟨p,q,hA0,hV,rfl,hfz,hnd⟩:=hW;have hA:=hA0;rw[Tryz.params4]at hA hval;obtain⟨v0,vs0,d0,ds0,p0,q0,hargs,rfl,rfl,h0,r0⟩:=trodAll_cons hA;obtain⟨v1,vs1,d1,ds1,p1,q1,rfl,rfl,rfl,h1,r1⟩:=trodAll_cons r0;obtain⟨rfl,rfl,rfl⟩:=trodAll_nil r1;obtain rfl:args=#[v0,v1]:=by cases args;simp_all
 obtain⟨rfl,rfl⟩:=trodVars_none hV;obtain⟨s,rfl,rfl,rfl,ws⟩:=Go.ChangeMaps.open_string Tryz.underlying9 (hval 0 9 v0 rfl rfl) h0;obtain⟨t,rfl,rfl,rfl,wt⟩:=Go.ChangeMaps.open_string Tryz.underlying9 (hval 1 9 v1 rfl rfl) h1;simp only[apz,apO]at hW' hk;have hz:=room hk;refine(walk s t W (by simpa using hz) (aeZ hL)).mono fun e W' ⟨he,hg⟩=>?_
 subst he;refine⟨_,rfl,_,_,_,[],[],[],hW',(trodAll_cons_mk (shut_bool Tryz.underlying4 _) trodAll_mk0),(trodAll_cons_mk (Go.ChangeMaps.shut_string Tryz.underlying9 ws) (trodAll_cons_mk (Go.ChangeMaps.shut_string Tryz.underlying9 wt) trodAll_mk0)),rfl,Below.frame hg _,fun h=>by cases h⟩
theorem KI (os:Os)(args:Array Value):laidMet Tryz.prog Rows.driveOnUptoRow.laid ((World.doorLaid Tryz.prog 400 os).forCall (fun _ _=>0) ⟨#[],args,[]⟩).memory:=laidMet_of_run' 8 (by kernel_rfl) (by kernel_rfl)
theorem reads (os:Os){H:Type}(enc:TypeId×Value->H):∃places,DataW.whole enc Tryz.prog ((World.doorLaid Tryz.prog 400 os).forCall (fun _ _=>0) ⟨#[],#[.string ⟨#[]⟩,.string ⟨#[]⟩],[]⟩).memory Tryz.f4.params.toList Rows.driveOnSpec.vars false #[Value.string ⟨#[]⟩,.string ⟨#[]⟩].toList 8=some ([.lit (.string []),.lit (.string [])],[],places):=⟨[],by kernel_rfl⟩
theorem lifted (os:Os)(started:os.Started)(H:Type)(enc:TypeId×Value->H)(F:Stop.Interp):ReturnsInHanded {} Tryz.checked os 4 .any ((Rows.OpenSpec.upto Rows.driveOnSpec).preRow enc Tryz.prog Tryz.f4 Rows.driveOnUptoRow.domain false Rows.driveOnUptoRow.laid) (((Rows.OpenSpec.upto Rows.driveOnSpec).at F).post enc Tryz.prog Tryz.f4 false true false false):=by
 obtain⟨places,hx⟩:=reads os enc
 refine returnsInHanded_of_row (C:=Tryz.checked) (s:=Rows.OpenSpec.upto Rows.driveOnSpec) own started (by kernel_rfl) Tryz.func4
  (witness_row_atRef (enc:=enc) (C:=Tryz.checked) false (World.doorLaid Tryz.prog 400 os) #[.string ⟨#[]⟩,.string ⟨#[]⟩] rfl (by kernel_rfl) (by kernel_rfl) (by kernel_rfl)
   (OpenSpec.preRow_of_cond 8 hx (by kernel_rfl) (fun k hk=>by cases hk;kernel_rfl) (by kernel_rfl) (KI os _))) ?_
 intro W base args ds gs before hval hW _ hcond hsz hL _ _;exact contract H enc W base args ds gs before hval hW (hcond _ rfl) hL
theorem over:Rows.DriveOnUptoSaid:=
 OpenClaim.holds_of_cond 4 Tryz.f4 rfl rfl rfl rfl rfl rfl rfl ⟨rfl,rfl,rfl,rfl,rfl⟩ rfl rfl rfl rfl rfl (by kernel_rfl) Tryz.func4 (by kernel_rfl)
  (ava (by kernel_rfl)) (by unfold Func.isWrapper;first|(rw[at7 (by decide +kernel)];kernel_rfl)|(rw[at6 (by decide +kernel)];exact⟨rfl,rfl⟩))
  (fun os started H enc _ F=>by rw[OpenClaim.pre_eq_preRow];exact lifted os started H enc F)
theorem proved:Rows.DriveOnUptoCardSaid:=
 Claim7.holds_tied_plain_at .later [] [.data,.data,.data,.data,.data,.data,.sentinel,.sentinel,.data,.data,.data,.data,.data] true Rows.driveOnUptoCard.stood.harness Rows.driveOnUptoCard.stood.looks
  over (fun _ h=>by cases h) (by kernel_rfl) (fun _ h=>by cases h) driveOnUpto_row_tie rfl ⟨rfl,rfl⟩ (by kernel_rfl) rfl
  (fun f fn hf hfn=>by
   obtain rfl : f = 4 := aum ((show Tryz.prog.funcNamed "ferrybridge/ferrybridgekeep.DriveOn" = some 4 by kernel_rfl).symm.trans hf) |>.symm
   obtain rfl:fn=Tryz.f4:=(aum (Tryz.func4.symm.trans hfn)).symm;exact⟨by kernel_rfl,fun j t ht=>by
    rw[Tryz.params4]at ht;have hm:t∈[9]:=by have:=Array.mem_of_getElem? ht;simp at this ⊢;omega
    have hall:([9].all fun u=>!Tryz.prog.wantsStandIn u)=true:=by kernel_rfl
    exact(show Tryz.prog.wantsStandIn t=false by simpa using apM.1 hall t hm)⟩)
  (by kernel_rfl)
#print axioms proved
end Go.Proofs.YtiadhbmnfjfioaaGreatDoor.driveOnUpto
