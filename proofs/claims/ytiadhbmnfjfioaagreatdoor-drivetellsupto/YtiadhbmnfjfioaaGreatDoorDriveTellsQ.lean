/-
  What is proved: a script's answer is, line by line, what the law's own player answers; the card of the second form ('Upto': what is handed in is of bulk at most 1048576), tied to the program's own tables. Conditions: that bound, and none beyond the card's own.
-/
import Derived.Test.YtiadhbmnfjfioaaGreatDoorCards
import Derived.Test.YtiadhbmnfjfioaaGreatDoorTie
import Derived.Test.YtiadhbmnfjfioaaGreatDoorU09
import Derived.Deep.DeepWitnessRowRef
set_option linter.unusedVariables false
set_option linter.unusedSimpArgs false
set_option maxHeartbeats 8000000
set_option maxRecDepth 100000
namespace Go.Proofs.YtiadhbmnfjfioaaGreatDoor.driveTellsUpto
open Go.ChangeShapes Go.WideShapes Go.ChangeAt Go.RowKit Mm As Vp

theorem own:ownKnob Tryz.prog.godebug=none:=by kernel_rfl
theorem laidOut:laidOutB Tryz.prog=true:=by kernel_rfl
def laid:List (String×DataW Unit):=Rows.driveTellsUptoRow.laid
def Ue : List String := ["ferrybridge/trans.operations", "ferrybridge/hart.sizes", "ferrybridge/hart.operations", "ferrybridge/micro.rows"]
def Ug : List String := ["ferrybridge/decode.shapes", "ferrybridge/decode.uppers", "ferrybridge/trans.operations", "ferrybridge/hart.sizes", "ferrybridge/hart.operations", "ferrybridge/micro.rows"]
theorem ali:laid.filter (fun x=>!Ue.contains x.1)=Y8:=by kernel_rfl
def adU : List (String × DataW Unit) := [("ferrybridge/decode.shapes", Rows.laid_ferrybridge_decode_shapes), ("ferrybridge/decode.uppers", Rows.laid_ferrybridge_decode_uppers), ("ferrybridge/trans.operations", Rows.laid_ferrybridge_trans_operations), ("ferrybridge/hart.sizes", Rows.laid_ferrybridge_hart_sizes), ("ferrybridge/hart.operations", Rows.laid_ferrybridge_hart_operations), ("ferrybridge/micro.rows", Rows.laid_ferrybridge_micro_rows)]
theorem alj:laid.filter (fun x=>Ug.contains x.1)=adU:=by kernel_rfl
theorem ahb {W:World}(h:laidMetH Tryz.prog laid W):T0 W:=by
 letI:Inhabited Hc.bH:=⟨⟨0⟩⟩
 rw[axi _ _ _ (by kernel_rfl)]at h;have hq:=h.filter (fun x=>!Ue.contains x.1);have he:=h.filter (fun x=>Ug.contains x.1);rw[ali]at hq;rw[alj]at he;rw[<-axi _ _ _ (by kernel_rfl)]at hq he;obtain⟨a,b⟩:=aix hq;exact⟨En.AX he,a,b⟩
theorem walk (s:ByteArray)(w:World)(hs:s.size<=3000000)(T:T0 w):Calls Tryz.prog 3 #[.string s] w fun e w'=>e=.returned (.bool true)/\Gr w w':=by
 letI:Inhabited Hc.bH:=⟨⟨0⟩⟩
 have:=NA (w:=w) (S:=Ci s) (aai s) (by unfold Ci;rw[asf,<-Lib.size_eq];exact hs) T;rwa[aah]at this
theorem room {H:Type}{a:List UInt8}(hk:Rows.uptoSmall H [.lit (.string a)]=true):a.length<=3000000:=by have h:=axu hk;simp only[Rows.uptoBulkAll,Rows.uptoBulk]at h;omega
theorem contract (H:Type)(enc:TypeId×Value→H)(W:World)(base:Nat)(args:Array Value)(ds gs:List (DataW H))(before:List MemPlace)(hval0:∀(j:Nat) t v,Tryz.f3.params[j]?=some t->args[j]?=some v->Value.okWide Tryz.prog W .any base t v)(hW:DataW.Whole enc Tryz.prog Tryz.f3.params.toList Rows.driveTellsSpec.vars false W args.toList ds gs before)(hk:Rows.uptoSmall H (ds++gs)=true)(hL:laidMetH Tryz.prog laid W):Calls Tryz.prog 3 args W fun e W'=>∃v,e=.returned v/\Rows.driveTellsSpec.post enc Tryz.prog Tryz.f3 false true false false W args v W':=by
 have hval:=hval0;have hW':=hW;obtain⟨p,q,hA0,hV,rfl,hfz,hnd⟩:=hW;have hA:=hA0;rw[Tryz.params3]at hA hval;obtain⟨v0,vs0,d0,ds0,p0,q0,hargs,rfl,rfl,h0,r0⟩:=trodAll_cons hA;obtain⟨rfl,rfl,rfl⟩:=trodAll_nil r0;obtain rfl:args=#[v0]:=by cases args;simp_all
 obtain⟨rfl,rfl⟩:=trodVars_none hV;obtain⟨s,rfl,rfl,rfl,ws⟩:=Go.ChangeMaps.open_string Tryz.underlying9 (hval 0 9 v0 rfl rfl) h0;simp only[arP,arT]at hW' hk;have hz:=room hk;refine(walk s W (by simpa using hz) (ahb hL)).mono fun e W' ⟨he,hg⟩=>?_
 subst he;refine⟨_,rfl,_,_,_,[],[],[],hW',(trodAll_cons_mk (shut_bool Tryz.underlying4 _) trodAll_mk0),(trodAll_cons_mk (Go.ChangeMaps.shut_string Tryz.underlying9 ws) trodAll_mk0),rfl,Below.frame hg _,fun h=>by cases h⟩
theorem NB (os:Os)(args:Array Value):laidMet Tryz.prog Rows.driveTellsUptoRow.laid ((World.doorLaid Tryz.prog 400 os).forCall (fun _ _=>0) ⟨#[],args,[]⟩).memory:=laidMet_of_run' 8 (by kernel_rfl) (by kernel_rfl)
theorem reads (os:Os){H:Type}(enc:TypeId×Value->H):∃places,DataW.whole enc Tryz.prog ((World.doorLaid Tryz.prog 400 os).forCall (fun _ _=>0) ⟨#[],#[.string ⟨#[]⟩],[]⟩).memory Tryz.f3.params.toList Rows.driveTellsSpec.vars false #[Value.string ⟨#[]⟩].toList 8=some ([.lit (.string [])],[],places):=⟨[],by kernel_rfl⟩
theorem lifted (os:Os)(started:os.Started)(H:Type)(enc:TypeId×Value->H)(F:Stop.Interp):ReturnsInHanded {} Tryz.checked os 3 .any ((Rows.OpenSpec.upto Rows.driveTellsSpec).preRow enc Tryz.prog Tryz.f3 Rows.driveTellsUptoRow.domain false Rows.driveTellsUptoRow.laid) (((Rows.OpenSpec.upto Rows.driveTellsSpec).at F).post enc Tryz.prog Tryz.f3 false true false false):=by
 obtain⟨places,hx⟩:=reads os enc
 refine returnsInHanded_of_row (C:=Tryz.checked) (s:=Rows.OpenSpec.upto Rows.driveTellsSpec) own started (by kernel_rfl) Tryz.func3
  (witness_row_atRef (enc:=enc) (C:=Tryz.checked) false (World.doorLaid Tryz.prog 400 os) #[.string ⟨#[]⟩] rfl (by kernel_rfl) (by kernel_rfl) (by kernel_rfl)
   (OpenSpec.preRow_of_cond 8 hx (by kernel_rfl) (fun k hk=>by cases hk;kernel_rfl) (by kernel_rfl) (NB os _))) ?_
 intro W base args ds gs before hval hW _ hcond hsz hL _ _;exact contract H enc W base args ds gs before hval hW (hcond _ rfl) hL
theorem over:Rows.DriveTellsUptoSaid:=
 OpenClaim.holds_of_cond 3 Tryz.f3 rfl rfl rfl rfl rfl rfl rfl ⟨rfl,rfl,rfl,rfl,rfl⟩ rfl rfl rfl rfl rfl (by kernel_rfl) Tryz.func3 (by kernel_rfl)
  (axu (by kernel_rfl)) (by unfold Func.isWrapper;first|(rw[awn (by decide +kernel)];kernel_rfl)|(rw[awm (by decide +kernel)];exact⟨rfl,rfl⟩))
  (fun os started H enc _ F=>by rw[OpenClaim.pre_eq_preRow];exact lifted os started H enc F)
theorem proved:Rows.DriveTellsUptoCardSaid:=
 Claim7.holds_tied_plain_at .later [] [.data,.data,.data,.data,.data,.data,.sentinel,.sentinel,.data,.data,.data,.data,.data] true Rows.driveTellsUptoCard.stood.harness Rows.driveTellsUptoCard.stood.looks
  over (fun _ h=>by cases h) (by kernel_rfl) (fun _ h=>by cases h) driveTellsUpto_row_tie rfl ⟨rfl,rfl⟩ (by kernel_rfl) rfl
  (fun f fn hf hfn=>by
   obtain rfl : f = 3 := aws ((show Tryz.prog.funcNamed "ferrybridge/ferrybridgekeep.DriveTells" = some 3 by kernel_rfl).symm.trans hf) |>.symm
   obtain rfl:fn=Tryz.f3:=(aws (Tryz.func3.symm.trans hfn)).symm;exact⟨by kernel_rfl,fun j t ht=>by
    rw[Tryz.params3]at ht;have hm:t∈[9]:=by have:=Array.mem_of_getElem? ht;simp at this ⊢;omega
    have hall:([9].all fun u=>!Tryz.prog.wantsStandIn u)=true:=by kernel_rfl
    exact(show Tryz.prog.wantsStandIn t=false by simpa using ar0.1 hall t hm)⟩)
  (by kernel_rfl)
#print axioms proved
end Go.Proofs.YtiadhbmnfjfioaaGreatDoor.driveTellsUpto
