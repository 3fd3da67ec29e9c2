/- ours -/
import Derived.Test.YtiadhbmnfjfioaaGreatDoorU06
import Derived.RangeFuncNested
import Derived.RangeFuncBound
import Derived.Shelf.RegionOpen
import Derived.OwnWalkIn
import Derived.LoopNIn
import Derived.LoopIn
import Derived.Lib.AppendZerosOnto
set_option linter.unusedVariables false
set_option linter.unusedSimpArgs false
set_option maxHeartbeats 8000000
set_option maxRecDepth 100000
set_option linter.unusedSectionVars false
namespace Go.Proofs.YtiadhbmnfjfioaaGreatDoor
open Go.Value (int slice pointer agg tuple string)
open Go.IntKind (i64)
open Go.Ending (returned)
open Go.Operand (tmp)
open Go.Proofs.Tryz hiding cs d1 d2 d3 t1 t2 t3 t5
open Go.ChangeShapes Go.WideShapes Go.ChangeAt Go.RowKit
variable{a:Act}{K:Act->World->Prop}{ops:Array Oper}{Y q cs:Array Value}{fr':Bool}{st z:Int}{ls ps s:List (Int×Int)}{L:List (List Nat)}{os:List Int}{l Wd:List Nat}{rest:List Oper}{m m':List UInt8}{k g t cap mn j c n B N mc hn hc ln lc gh b i e pn base:Nat}{D D':Nat->Prop}{fr f:Nat×Nat}{o:Oper}{ao ma ha la na oa ua pa:Option Addr}{r:Option Nat}{P:Program}{E:Prop}{M H H' U v U':Value}{w w' W0 w1:World}
variable [Inhabited Hc.bH]
namespace Ud
open Mm Hh Hc Mc
variable{us:List Uv}{u:Uv}{x:List Value}
theorem nG {a b}(h:a=b):Ending.returned (.bool a)=returned (.bool b):=by rw[h]
theorem dK (mb)(k1:w.cell? ⟨mb,1,none⟩=some (slice ha hn hc))(hb:hn<=140737488351232)(q):Calls prog 70 #[int i64 q,pointer (some ⟨mb,0,none⟩)] w fun e w'=>e=returned (.bool (decide (0<=q/\q<hn)))/\Gr w w':=by
 by_cases h0:0<=q
 ·by_cases h1:q<hn
  ·go_enter func70,ntmps70;go_wp2;go_ret;exact⟨nG (by simp[h0,h1]),Gr.refl _⟩
  ·go_enter func70,ntmps70;go_wp2;go_ret;exact⟨nG (by simp[h1]),Gr.refl _⟩
 ·go_enter func70,ntmps70;go_wp2;go_ret;exact⟨nG (by rw[awq (show¬0<=q by omega)];rfl),Gr.refl _⟩
theorem GI (U:Uc w u x)(hb:mn<=140737488351232):Calls prog 71 #[slice ma mn mc,agg x.toArray] w fun e w'=>e=returned (.bool (decide (u.fr+u.bs.length<=mn)))/\Gr w w':=by
 obtain⟨ba,bn,bc,l1,l2,l3,rfl,o,_,_,M,_,b1,_⟩:=U;have hl:=M.len;have f0:=o.f0;have f1:=o.f1;have k38:(uL u (slice ba bn bc) (slice l1 l2 l3)).toArray[38]?=some (int .u32 u.fr):=by rw[arB];exact fo o.was 0
 have ND:(uL u (slice ba bn bc) (slice l1 l2 l3)).toArray[39]?=some (slice ba bn bc):=by rw[arB];exact fo o.was 1
 have HR:Hid ((decide (u.fr+u.bs.length<=mn))=decide (u.fr+(bn:Int)<=mn)):=by unfold Hid;rw[hl]
 clear M o hl;generalize(uL u (slice ba bn bc) (slice l1 l2 l3)).toArray=X at *
 have q38:(w.alloc (.cells X 121)).cell? ⟨w.heap.size,38,none⟩=some (int .u32 u.fr):=(cr (awk w _)).trans k38;have q39:(w.alloc (.cells X 121)).cell? ⟨w.heap.size,39,none⟩=some (slice ba bn bc):=(cr (awk w _)).trans ND;generalize u.fr=f at *
 have e1:IntKind.u64.wrap f=f:=by simp[IntKind.wrap,IntKind.bits,IntKind.signed];omega
 have e2:IntKind.u64.wrap (bn:Int)=bn:=by simp[IntKind.wrap,IntKind.bits,IntKind.signed];omega
 have e3:IntKind.u64.wrap (f+(bn:Int))=f+bn:=by simp[IntKind.wrap,IntKind.bits,IntKind.signed];omega
 have e4:IntKind.u64.wrap (mn:Int)=mn:=by simp[IntKind.wrap,IntKind.bits,IntKind.signed];omega
 go_enter func71,ntmps71;go_wp2;go_ret;exact⟨nG HR.symm,(Gr.refl _).alloc _⟩
theorem zW {α:Type}{f:α->Bool}{l:List α}{y:α}(h:l[k]?=some y)(hx:f y=false):l.all f=false:=all_false h hx
theorem Bi (U:Us w la ln us)(hb1:mn<=140737488351232)(hb2:hn<=140737488351232)(hb3:ln<=140737488351232):Calls prog 35 #[agg #[slice ma mn mc,slice ha hn hc],slice la ln lc] w fun e w'=>e=returned (.bool (us.all (fT hn mn)))/\Gr w w':=by
 have HU:=kH U;have HL:=kH U.len;have HC:Hid (∀(q:Int) (W:World),Gr w W->W.heap[w.heap.size]?=some (.cells #[slice ma mn mc,slice ha hn hc] 28 (0,0))->_):=fun q W G e=>dK w.heap.size (eH e) hb2 q
 clear U;go_enter func35,ntmps35;go_wp2_with fail;go_loopw [13] (fun i wr=>∃j:Nat,j<=ln/\i=int i64 j/\(us.take j).all (fT hn mn)=true/\Gr w wr/\wr.heap[w.heap.size]?=some (.cells #[slice ma mn mc,slice ha hn hc] 28 (0,0))) (fun i _=>ln-(intOf i).toNat)
 case atStart=>exact⟨0,arQ _,rfl,rfl,(Gr.refl _).alloc _,awk w _⟩
 case round=>
  obtain⟨j,hj,rfl,hall,G,KM⟩:=hrel;have HA:=kH hall;have HG:Hid (Gr w wr):=G;have HM:=kH KM;have nC:=(gs KM).1;clear hall G KM;by_cases hlt:j<ln
  ·obtain⟨u,hu⟩:∃u,us[j]?=some u:=⟨_,arq (by rw[HL.out];exact hlt)⟩;obtain⟨b,o,rfl,hb,hc'⟩:=HU.spot ab;obtain⟨x,Ux',hr⟩:=hc' j u hu;have RG:=kH (qm hr hb HG);have ER:=kH Ux'.len;have ES:Hid (x.toArray.size=41):=by unfold Hid;simp[ER.out]
   have jy:=kH Ux'.one;have HIn:Hid (∀W:World,Gr w W->Calls prog 71 #[slice ma mn mc,agg x.toArray] W fun e w'=>e=returned (.bool (decide (u.fr+u.bs.length<=mn)))/\Gr W w'):=fun W G=>GI (Ux'.of G) hb1
   obtain⟨ba,bn,bc',l1,l2,l3,hx,ok,hk,hq,_,LS,_,b2⟩:=Ux';have LK:Hid (x[0]?=some (int i64 u.k)/\∀i v,(hL u.was)[i]?=some v->x[1+i]?=some v):=by
    rw[hx];refine⟨rfl,fun i v hi=>?_⟩;have:i<37:=by have:=(arw.1 hi).1;rwa[aF ok.was]at this
    rw[sZ ok.was this];exact hi
   have ajZ:Hid (x[40]?=some (slice l1 l2 l3)):=by rw[hx];exact fo ok.was 2
   have HLS:=kH LS;have Ej:Hid (∀W:World,_):=fun W=>zC ok.was W
   have wY:=kH (aF ok.was);have fM:Hid (∀Y:Array Value,Gr wr ((wr.alloc (.cells Y 121)).setRow wr.heap.size x.toArray)):=fun Y=>ag br (arA _) _
   have EL:Hid (∀Y:Array Value,((wr.alloc (.cells Y 121)).setRow wr.heap.size x.toArray).heap[wr.heap.size]?=some (.cells x.toArray 121 (0,0))):=fun Y=>J6 (awk wr _)
   have ZJ:Hid (∀Y:Array Value,((wr.alloc (.cells Y 121)).setRow wr.heap.size x.toArray).heap[w.heap.size]?=some (.cells #[slice ma mn mc,slice ha hn hc] 28 (0,0))):=fun Y=>Hr.ae (fM Y) HM
   have u0:∀Y:Array Value,((wr.alloc (.cells Y 121)).setRow wr.heap.size x.toArray).cell? ⟨wr.heap.size,0,none⟩=some (int i64 u.k):=fun Y=>(cr (EL Y)).trans (by rw[arB];exact LK.1)
   have RU:Hid (fT hn mn u=(decide (0<=u.k/\u.k<hn) && (may u.was && (decide (u.fr+u.bs.length<=mn) && u.lost.all fun q=>decide (0<=q.1/\q.1<hn))))):=rfl;have Gw:Hid ((us.take (j+1)).all (fT hn mn)=((us.take j).all (fT hn mn) && fT hn mn u)):=qX _ _ _ _ hu;have ZK:Hid (fT hn mn u=false->_):=fun h=>zW hu h
   clear hc' hr hx ok LS HU hu;have jw:Hid (∀W:World,Gr w W->W.heap[w.heap.size]?=some (.cells #[slice ma mn mc,slice ha hn hc] 28 (0,0))->Calls prog 70 #[int i64 u.k,pointer (some ⟨w.heap.size,0,none⟩)] W fun e w'=>e=returned (.bool (decide (0<=u.k/\u.k<hn)))/\Gr W w'):=HC u.k;generalize decide (0<=u.k/\u.k<(hn:Int))=t1 at jw RU;generalize may u.was=t2 at Ej RU;generalize decide (u.fr+u.bs.length<=mn)=t3 at HIn RU;cases t1 with
   |false=>
    have pM:Hid (us.all (fT hn mn)=false):=ZK (by rw[RU.out];rfl);clear RU ZK Gw
    go_wp2_with (first
     |(refine awU rfl 121 _ rfl b (o+j*41) rfl x _ ?r1 underlying121 rfl (by rw[ER.out];exact iU) ?_;(case r1=>exact RG))
     |(refine awx rfl 121 _ _ rfl wr.heap.size x.toArray rfl rfl 121 _ (awk wr _) (by rw[ES.out];exact iU) (by rw[ES.out];rfl) jy ?_))
    refine(jw _ (HG.trans (fM _)) (ZJ _)).mono ?_;rintro e w5 ⟨rfl,G5⟩;have kg:=kH (HG.trans ((fM _).trans G5));have rQ:=kH (Hr.ae G5 (EL _));have XN:=kH (Hr.ae ((fM _).trans G5) HM);have R5:Hid (w5.rangeAt (wr.heap.size) 1 (hL u.was)):=fun i v hv=>by rw[cr rQ.out,arB];exact LK.2 i v hv
    have hl5:=(gs rQ).1;clear G5 EL fM ZJ u0 jw;go_wp2_with fail;go_ret;exact⟨nG pM.symm,kg⟩
   |true=>
    cases t2 with
    |false=>
     have pM:=kH (ZK (by rw[RU.out];rfl));clear RU ZK Gw
     go_wp2_with (first
      |(refine awU rfl 121 _ rfl b (o+j*41) rfl x _ ?r1 underlying121 rfl (by rw[ER.out];exact iU) ?_;(case r1=>exact RG))
      |(refine awx rfl 121 _ _ rfl wr.heap.size x.toArray rfl rfl 121 _ (awk wr _) (by rw[ES.out];exact iU) (by rw[ES.out];rfl) jy ?_))
     refine(jw _ (HG.trans (fM _)) (ZJ _)).mono ?_;rintro e w5 ⟨rfl,G5⟩;have kg:=kH (HG.trans ((fM _).trans G5));have rQ:=kH (Hr.ae G5 (EL _));have XN:=kH (Hr.ae ((fM _).trans G5) HM);have R5:Hid (w5.rangeAt (wr.heap.size) 1 (hL u.was)):=fun i v hv=>by rw[cr rQ.out,arB];exact LK.2 i v hv
     have hl5:=(gs rQ).1;clear G5 EL fM ZJ u0 jw;go_wp2_with (refine iN (by rfl) 43 _ rfl wr.heap.size 1 rfl (hL u.was) _ ?r2 underlying43 rfl (by rw[wY.out];exact iH) ?_;(case r2=>exact R5));refine(Ej _).mono ?_;rintro e w6 ⟨rfl,G6⟩;have nL:=kH (kg.trans G6);have ZL:=kH (Hr.ae G6 rQ);have XO:=kH (Hr.ae G6 XN);have m0:=fA XO;clear G6 kg rQ XN R5 Ej;go_wp2_with fail;go_ret;exact⟨nG pM.symm,nL⟩
    |true=>
     cases t3 with
     |false=>
      have pM:=kH (ZK (by rw[RU.out];rfl));clear RU ZK Gw
      go_wp2_with (first
       |(refine awU rfl 121 _ rfl b (o+j*41) rfl x _ ?r1 underlying121 rfl (by rw[ER.out];exact iU) ?_;(case r1=>exact RG))
       |(refine awx rfl 121 _ _ rfl wr.heap.size x.toArray rfl rfl 121 _ (awk wr _) (by rw[ES.out];exact iU) (by rw[ES.out];rfl) jy ?_))
      refine(jw _ (HG.trans (fM _)) (ZJ _)).mono ?_;rintro e w5 ⟨rfl,G5⟩;have kg:=kH (HG.trans ((fM _).trans G5));have rQ:=kH (Hr.ae G5 (EL _));have XN:=kH (Hr.ae ((fM _).trans G5) HM);have R5:Hid (w5.rangeAt (wr.heap.size) 1 (hL u.was)):=fun i v hv=>by rw[cr rQ.out,arB];exact LK.2 i v hv
      have hl5:=(gs rQ).1;clear G5 EL fM ZJ u0 jw;go_wp2_with (refine iN (by rfl) 43 _ rfl wr.heap.size 1 rfl (hL u.was) _ ?r2 underlying43 rfl (by rw[wY.out];exact iH) ?_;(case r2=>exact R5));refine(Ej _).mono ?_;rintro e w6 ⟨rfl,G6⟩;have nL:=kH (kg.trans G6);have ZL:=kH (Hr.ae G6 rQ);have XO:=kH (Hr.ae G6 XN);have m0:=fA XO;clear G6 kg rQ XN R5 Ej;go_wp2_with (refine lK (by rfl) 121 _ rfl wr.heap.size rfl 121 x.toArray (0,0) _ ?r3 underlying121 rfl (by rw[ES.out];exact iU) ?_;(case r3=>exact ZL));refine(HIn _ nL).mono ?_;rintro e w7 ⟨rfl,G7⟩;have Bh:=kH (nL.trans G7);have HU7:=kH (Hr.ae G7 ZL);have HM7:=kH (Hr.ae G7 XO);clear G7 nL ZL XO m0 HIn;go_wp2_with fail;go_ret;exact⟨nG pM.symm,Bh⟩
     |true=>
      have HF4:Hid (fT hn mn u=u.lost.all fun q=>decide (0<=q.1/\q.1<(hn:Int))):=by unfold Hid;rw[RU.out];simp only[atE]
      clear RU
      go_wp2_with (first
       |(refine awU rfl 121 _ rfl b (o+j*41) rfl x _ ?r1 underlying121 rfl (by rw[ER.out];exact iU) ?_;(case r1=>exact RG))
       |(refine awx rfl 121 _ _ rfl wr.heap.size x.toArray rfl rfl 121 _ (awk wr _) (by rw[ES.out];exact iU) (by rw[ES.out];rfl) jy ?_))
      refine(jw _ (HG.trans (fM _)) (ZJ _)).mono ?_;rintro e w5 ⟨rfl,G5⟩;have kg:=kH (HG.trans ((fM _).trans G5));have rQ:=kH (Hr.ae G5 (EL _));have XN:=kH (Hr.ae ((fM _).trans G5) HM);have R5:Hid (w5.rangeAt (wr.heap.size) 1 (hL u.was)):=fun i v hv=>by rw[cr rQ.out,arB];exact LK.2 i v hv
      have hl5:=(gs rQ).1;clear G5 EL fM ZJ u0 jw;go_wp2_with (refine iN (by rfl) 43 _ rfl wr.heap.size 1 rfl (hL u.was) _ ?r2 underlying43 rfl (by rw[wY.out];exact iH) ?_;(case r2=>exact R5));refine(Ej _).mono ?_;rintro e w6 ⟨rfl,G6⟩;have nL:=kH (kg.trans G6);have ZL:=kH (Hr.ae G6 rQ);have XO:=kH (Hr.ae G6 XN);have m0:=fA XO;clear G6 kg rQ XN R5 Ej;go_wp2_with (refine lK (by rfl) 121 _ rfl wr.heap.size rfl 121 x.toArray (0,0) _ ?r3 underlying121 rfl (by rw[ES.out];exact iU) ?_;(case r3=>exact ZL));refine(HIn _ nL).mono ?_;rintro e w7 ⟨rfl,G7⟩;have Bh:=kH (nL.trans G7);have HU7:=kH (Hr.ae G7 ZL);have HM7:=kH (Hr.ae G7 XO);clear G7 nL ZL XO m0 HIn;have k40:w7.cell? ⟨wr.heap.size,40,none⟩=some (slice l1 l2 l3):=(cr HU7).trans (by rw[arB];exact ajZ);have qY:Hid (u.lost.length=l2):=HLS.len;go_wp2_with fail;go_loopw [38] (fun i ws=>∃q:Nat,q<=l2/\i=int i64 q/\(u.lost.take q).all (fun q=>decide (0<=q.1/\q.1<(hn:Int)))=true/\Gr w ws/\ws.heap[w.heap.size]?=some (.cells #[slice ma mn mc,slice ha hn hc] 28 (0,0))) (fun i _=>l2-(intOf i).toNat)
      case atStart=>exact⟨0,arQ _,rfl,rfl,Bh,HM7⟩
      case round=>
       obtain⟨q,hq',rfl,hall,G,KM⟩:=hrel;have HAq:Hid ((u.lost.take q).all (fun q=>decide (0<=q.1/\q.1<(hn:Int)))=true):=hall;have HGq:Hid (Gr w wr):=G;have HMq:Hid (wr.heap[w.heap.size]?=some (.cells #[slice ma mn mc,slice ha hn hc] 28 (0,0))):=KM;clear hall G KM k40 HU7;by_cases hlq:q<l2
       ·obtain⟨p,hp⟩:∃p,u.lost[q]?=some p:=⟨_,arq (by rw[qY.out];exact hlq)⟩;obtain⟨b7,o7,rfl,hb7,hc7⟩:=HLS.spot ab;have z0:wr.cell? ⟨b7,o7+q*2,none⟩=some (int i64 p.1):=(HGq.cell _ (by exact hb7)).trans (hc7 q p hp).1;have z1:wr.cell? ⟨b7,o7+q*2+1,none⟩=some (int .u32 p.2):=(HGq.cell _ (by exact hb7)).trans (hc7 q p hp).2;have HCq:Hid (∀W:World,Gr w W->W.heap[w.heap.size]?=some (.cells #[slice ma mn mc,slice ha hn hc] 28 (0,0))->Calls prog 70 #[int i64 p.1,pointer (some ⟨w.heap.size,0,none⟩)] W fun e w'=>e=returned (.bool (decide (0<=p.1/\p.1<hn)))/\Gr W w'):=HC p.1;have HTq:Hid ((u.lost.take (q+1)).all (fun q=>decide (0<=q.1/\q.1<(hn:Int)))=((u.lost.take q).all (fun q=>decide (0<=q.1/\q.1<(hn:Int))) && decide (0<=p.1/\p.1<(hn:Int)))):=qX _ _ _ _ hp;have HNq:Hid (decide (0<=p.1/\p.1<(hn:Int))=false->us.all (fT hn mn)=false):=fun h=>ZK (by rw[HF4.out];exact zW hp h)
        clear hc7 hp;obtain⟨p1,p2⟩:=p;simp only at *
        generalize decide (0<=p1/\p1<(hn:Int))=t5 at HCq HTq HNq;cases t5 with
        |false=>
         have pM:Hid (us.all (fT hn mn)=false):=HNq rfl;clear HNq HTq;go_wp2_with fail;refine(HCq _ (HGq.alloc _) (Hr.ae br HMq)).mono ?_;rintro e w8 ⟨rfl,G8⟩;have NK:Hid (Gr w w8):=(HGq.alloc _).trans G8;clear G8 HCq z0 z1;go_wp2_with fail;go_ret;exact⟨nG pM.symm,NK⟩
        |true=>
         clear HNq;go_wp2_with fail;refine(HCq _ (HGq.alloc _) (Hr.ae br HMq)).mono ?_;rintro e w8 ⟨rfl,G8⟩;have NK:Hid (Gr w w8):=(HGq.alloc _).trans G8;have HM8:Hid (w8.heap[w.heap.size]?=some (.cells #[slice ma mn mc,slice ha hn hc] 28 (0,0))):=Hr.ae (br.trans G8) HMq;clear G8 HCq z0 z1;go_wp2_with fail;go_roundw
         case rel=>exact⟨q+1,ab,by go_num,by rw[HTq.out,HAq.out];rfl,NK,HM8⟩
         case measure=>simp[intOf];omega
       ·have HYe:Hid ((us.take (j+1)).all (fT hn mn)=true):=by
         unfold Hid;rw[Gw.out,HA.out,HF4.out];have:=HAq;rwa[ar5 (by rw[qY.out];omega)]at this
        clear HAq Gw ZK HF4;go_wp2_with fail;go_roundw
        case rel=>exact⟨j+1,ab,by go_num,HYe,HGq,HMq⟩
        case measure=>simp[intOf];omega
  ·have HYe:Hid (us.all (fT hn mn)=true):=by
    have:=HA;rwa[ar5 (by rw[HL.out];omega)]at this
   clear HA;go_wp2_with fail;go_ret;exact⟨nG HYe.symm,HG⟩
end Ud
namespace Ud
open Mm Hh Hc Mc
variable{w w' W0:World}{n z gh hc:Nat}{M:Value}{hs:List Hv}{m:List UInt8}{u:Uv}{x:List Value}
structure Mz (w:World) (n z:Nat) (M:Value) (gh hc:Nat) (hs:List Hv) (m:List UInt8):Prop where
 blk:w.heap[z]?=some (.cells #[M,slice (some ⟨gh,0,none⟩) hs.length hc] 28 (0,0))
 bz:n<=z
 mem:Hc.Own w n M m
 bh:n<=gh
 row:bY w gh hs
 hz:Zh w gh hc
structure Th (n:Nat) (w w':World):Prop where
 below:Below n w w'
 keep:∀(k:Nat) (o:Obj),w.heap[k]?=some o->(∀q f,¬o=.cells q 43 f)->(∀q f,¬o=.cells q 5 f)->w'.heap[k]?=some o
theorem Th.refl (n)(w):Th n w w:=⟨awX _ _,fun _ _ h _ _=>h⟩
theorem Th.trans {a b c}(h:Th n a b)(k:Th n b c):Th n a c:=⟨h.below.trans k.below,fun i o e t1 t2=>k.keep i o (h.keep i o e t1 t2) t1 t2⟩
theorem Th.aJ (G:Gr w w')(hb:n<=w.heap.size):Th n w w':=⟨awH G hb,fun i o e _ _=>(G.block i (gs e).1).trans e⟩
theorem Th.row (h:Th n w w'){k:Nat}{q}{t:Nat}{f}(e:w.heap[k]?=some (.cells q t f))(t1:t≠43)(t2:t≠5):w'.heap[k]?=some (.cells q t f):=h.keep k _ e (fun _ _ c=>t1 (by injection c)) (fun _ _ c=>t2 (by injection c))
theorem Bj (hy:w.heap[g]?=some (.cells Y t fr))(ht:t=43\/t=5)(hg:n<=g)(hb:n<=w.heap.size)(q:w.grownBy w' (some g)):Th n w w':=
 ⟨⟨q.os,q.tape,q.output,q.size,fun k hk=>q.block k ab (fun e=>by injection e with e;omega)⟩,fun k o e t1 t2=>(q.block k (gs e).1 (fun e2=>by
  injection e2 with e2;subst e2;rw[hy]at e;injection e with e;rcases ht with rfl|rfl
  ·exact t1 _ _ e.symm
  ·exact t2 _ _ e.symm)).trans e⟩
theorem ZM (G:Gr W0 w)(T:Th W0.heap.size w w'):Gr W0 w':=aw2 G T.below
theorem Er {Q}(hgd:o.guard=none)(d s)(dT sT)(ho:o.op=.call { callee:=.builtin .copy,args:=#[d,s],argTypes:=#[dT,sT] })(elem)(hu:P.underlying dT=some (.slice elem))(hsz:(P.info? elem).map (·.size)=some 1)(g off dLen dCap)(ad)(sLen sCap)(hd:a.eval d=.slice (some ⟨g,off,none⟩) dLen dCap)(hs:a.eval s=.slice (some ad) sLen sCap)(cur)(t)(hg:w.heap[g]?=some (.cells cur t (0,0)))(cs)(hn:cs.length=Nat.min sLen dLen)(hsrc:∀j v,cs[j]?=some v->w.cell? (ad.add j)=some v)(hfit:off+cs.length<=cur.size)(h1:∀v∈cs,v.oneCell'=true)(h:K (a.put o.dst (goInt cs.length)) (w.setRow g (cur.toList.take off++(cs++cur.toList.drop (off+cs.length))).toArray)):if Region.wanted o (yielded ops a.tmps)=true then Oper.wp P o a w K Q else E:=by rw[awn (by simp[Region.wanted,hgd])];have hrun:=run_copy_row (P:=P) w dT sT o.type elem g off dLen dCap ad sLen sCap cur t cs hu hsz hg hn hsrc hfit h1;unfold Oper.wp;simp[execOp,ho,resolve,invoke,builtin,hd,hs,hrun,Result.andThen];exact h
theorem Es {Q}(hgd:o.guard=none)(d s)(dT sT)(ho:o.op=.call { callee:=.builtin .copy,args:=#[d,s],argTypes:=#[dT,sT] })(elem)(hu:P.underlying dT=some (.slice elem))(hsz:(P.info? elem).map (·.size)=some 1)(dp sp)(dLen dCap sLen sCap)(hd:a.eval d=.slice dp dLen dCap)(hs:a.eval s=.slice sp sLen sCap)(hn:Nat.min sLen dLen=0)(h:K (a.put o.dst (goInt 0)) w):if Region.wanted o (yielded ops a.tmps)=true then Oper.wp P o a w K Q else E:=by rw[awn (by simp[Region.wanted,hgd])];have hrun:=run_copy_none (P:=P) w dT sT o.type elem dp sp dLen dCap sLen sCap hu hsz hn;unfold Oper.wp;simp[execOp,ho,resolve,invoke,builtin,hd,hs,hrun,Result.andThen];exact h
theorem XP {f}{bs}{mk cap:Nat}{rest}(hm:w.heap[mk]?=some (.cells (bc m++rest).toArray 5 (0,0)))(h:f+bs.length<=m.length):w.setRow mk ((bc m++rest).toArray.toList.take f++(bc bs++(bc m++rest).toArray.toList.drop (f+(bc bs).length))).toArray=w.setRow mk (bc (lay m f bs)++rest).toArray:=by congr 2;have l1:=iE m;have l2:=iE bs;simp only[aty];rw[asS ab,as5 ab,l2];unfold lay bc;simp[asl,List.map_take,List.map_drop]
def Ez (mo:Option Addr) (cap f:Nat):Option Addr:=if cap=f then mo else mo.map fun ad=>⟨ad.block,ad.off+f,ad.spot⟩
theorem EA {Q}(hgd:o.guard=none)(d s)(ho:o.op=.call { callee:=.builtin .copy,args:=#[d,s],argTypes:=#[25,25] }){mo sp}{mn cap f sl sc n}{m bs}(hd:a.eval d=slice (Ez mo cap f) (mn-f) (cap-f))(hs:a.eval s=slice sp sl sc)(hO:Hc.Own w n (slice mo mn cap) m)(nC:m.length=mn)(hcap:mn<=cap)(MB:Mem w sp sl bs)(hfit:f+bs.length<=mn)(hnw:n<=w.heap.size)(hK:∀w',Hc.Own w' n (slice mo mn cap) (lay m f bs)->Th n w w'->(∀(k:Nat) (q) (t:Nat) (fr),t≠5->w.heap[k]?=some (.cells q t fr)->w'.heap[k]?=w.heap[k]?)->K (a.put o.dst (goInt bs.length)) w'):if Region.wanted o (yielded ops a.tmps)=true then Oper.wp prog o a w K Q else E:=by
 have hbl:=MB.len;by_cases h0:bs.length=0
 ·obtain rfl:bs=[]:=asa h0;have e:lay m f []=m:=by simp[lay]
  refine Es hgd d s 25 25 ho 5 underlying25 al _ _ _ _ _ _ hd hs (by rw[<-hbl];simp) ?_;exact hK w (by rw[e];exact hO) (Th.refl _ _) (fun _ _ _ _ _ _=>rfl)
 ·rcases hO with⟨h1,h2⟩|⟨mk,cp,h1,⟨h2,h3⟩,rest,hr,hz,hmx⟩
  ·rw[h2]at nC;simp at nC;omega
  ·injection h1 with e1 e2 e3;subst e1 e3;have hc:Ez (some ⟨mk,0,none⟩) cap f=some ⟨mk,f,none⟩:=by unfold Ez;rw[ak];simp
   rw[hc]at hd;cases sp with
   |none=>exact absurd (MB.nil rfl) ab
   |some ad=>
    have hg:=XP (w:=w) (cap:=cap) hr (show f+bs.length<=m.length by omega);refine Er hgd d s 25 25 ho 5 underlying25 al mk f _ _ ad _ _ hd hs _ 5 hr (bc bs) (by rw[iE,hbl];exact(att ab).symm) (fun j v hj=>?_) (by simp[iE];omega) (zu bs) ?_
    ·obtain⟨j1,j2⟩:=zt hj;rw[j2];exact MB.cell ad rfl j ab
    ·rw[hg,iE];have G:w.grownBy (w.setRow mk (bc (lay m f bs)++rest).toArray) (some mk):=⟨rfl,rfl,rfl,by simp[World.setRow],fun k _ hk=>uI (fun e=>hk (by rw[e]))⟩;have hll:(lay m f bs).length=m.length:=by unfold lay;simp;omega
     refine hK _ (.inr ⟨mk,cap,by rw[hll,nC],⟨h2,ab⟩,rest,J6 hr,by rw[ary,iE]at hz ⊢;omega,hmx⟩) (Bj hr (.inr rfl) h2 hnw G) (fun k q t fr ht hk=>uI (aa hk hr ht))
theorem GJ (hs)(ls:List (Int×Int)){q}(h:ls[j]?=some q):gives hs (ls.take (j+1))=(gives hs (ls.take j)).set q.1.toNat (((gives hs (ls.take j)).getD q.1.toNat hN).hold true q.2):=by rw[arW,h,as2,yS];rfl
theorem rD (U:Uc W0 u x)(G:Gr W0 w)(Z:Mz w W0.heap.size z M gh hc hs m)(hcl:hs.length=c)(hc4:c<=4)(nC:m.length=mn)(ni:mn<=4096)(hf:fT c mn u=true):Calls prog 39 #[pointer (some ⟨z,0,none⟩),agg x.toArray] w fun e w'=>e=returned (tuple #[])/\Mz w' W0.heap.size z M gh hc (cZ (hs,m) u).1 (cZ (hs,m) u).2/\Th W0.heap.size w w':=by
 have ER:Hid (x.length=41):=U.len;have jy:Hid (x.toArray.all (·.oneCell')=true):=U.one;obtain⟨ba,bn,bc',l1,l2,l3,hx,ok,_,_,MB,LS,_,b2⟩:=U;unfold fT at hf;simp only[arR,awD,ar0]at hf;obtain⟨⟨a0,a1⟩,a2,a3,a4⟩:=hf;obtain⟨k,hk⟩:=arI a0;obtain⟨f,hf⟩:=arI ok.f0;have hkc:k<c:=ab;have hfm:f+u.bs.length<=mn:=ab;have LK:Hid (x[0]?=some (int i64 k)/\(∀i v,(hL u.was)[i]?=some v->x[1+i]?=some v)/\x[38]?=some (int .u32 f)/\x[39]?=some (slice ba bn bc')/\x[40]?=some (slice l1 l2 l3)):=by
  rw[hx,<-hk,<-hf];refine⟨rfl,fun i v hi=>?_,fo ok.was 0,fo ok.was 1,fo ok.was 2⟩;have:i<37:=by have:=(arw.1 hi).1;rwa[aF ok.was]at this
  rw[sZ ok.was this];exact hi
 have HBk:Hid (cZ (hs,m) u=(gives (hs.set k u.was) u.lost,lay m f u.bs)):=by unfold Hid cZ;rw[hk,hf];simp only[arS]
 have Zn:Hid (Mem W0 ba bn u.bs):=MB;have HLS:Hid (Ls W0 l1 l2 u.lost):=LS;have HLQ:Hid (∀q∈u.lost,(0<=q.1/\q.1<c)/\0<=q.2/\q.2<4294967296):=fun q hq=>⟨a4 q hq,ok.lost q hq⟩
 have HOW:Hid u.was.Ok:=ok.was;have wY:Hid ((hL u.was).length=37):=aF ok.was;have HZ:Hid (Mz w W0.heap.size z M gh hc hs m):=Z;have qf:Hid (Gr W0 w):=G;have HCL:Hid (hs.length=c):=hcl;have ZN:Hid (m.length=mn):=nC;have hn0:=G.size;have hzl:z<w.heap.size:=(gs Z.blk).1;have LD:gh<w.heap.size:=by obtain⟨_,e⟩:=Z.row.row;exact(gs e).1
 have hzg:z≠gh:=by obtain⟨_,e⟩:=Z.row.row;exact aa Z.blk e an
 clear Z G hx ok MB LS a0 a1 a2 a3 a4 hcl nC hk hf;go_enter func39,ntmps39;go_wp2_with fail;refine JC (fun W=>W.heap[w.heap.size]?=some (.cells x.toArray 121 (0,0))/\Gr w W) ⟨awk w _,(Gr.refl _).alloc _⟩ ?_;rintro W1 ⟨KU,G1⟩;obtain⟨ub,hub⟩:∃ub:Nat,ub=w.heap.size:=⟨_,rfl⟩;rw[<-hub]at KU ⊢;have uj:Hid (W1.heap[ub]?=some (.cells x.toArray 121 (0,0))):=KU;have HZ1:Hid (Mz W1 W0.heap.size z M gh hc hs m):=⟨(G1.block _ hzl).trans HZ.blk,HZ.bz,iO HZ.mem G1,HZ.bh,HZ.row.of G1,HZ.hz.of G1⟩;have aU:Hid (Gr w W1):=G1;have hzu:z≠ub:=ab;have hgu:gh≠ub:=ab;have uk:Hid (∀V:World,V.heap[z]?=W1.heap[z]?->V.heap[ub]?=W1.heap[ub]?->(fun W=>W.cell? ⟨z,1,none⟩=some (slice (some ⟨gh,0,none⟩) c hc)/\W.cell? ⟨ub,0,none⟩=some (int i64 k)/\W.rangeAt ub 1 (hL u.was)) V):=fun V e1 e2=>by
  have h1:=e1.trans HZ1.blk;have h2:=e2.trans uj;rw[HCL.out]at h1;exact⟨eH h1,(cr h2).trans (by rw[arB];exact LK.1),fun i v hi=>by rw[cr h2,arB];exact LK.2.1 i v hi⟩
 clear KU G1 hub;refine awN (S:=fun W=>W.cell? ⟨z,1,none⟩=some (slice (some ⟨gh,0,none⟩) c hc)/\W.cell? ⟨ub,0,none⟩=some (int i64 k)/\W.rangeAt ub 1 (hL u.was)) al (uk _ rfl rfl) (fun hHeld=>?_);have bA:Hid _:=hHeld;clear hHeld;refine tK 0 (pointer (some ⟨z,0,none⟩)) bA ?_;refine tK 1 (pointer (some ⟨z,0,none⟩)) bA ?_;refine tK 2 (pointer (some ⟨z,1,none⟩)) bA ?_;refine tK 3 (slice (some ⟨gh,0,none⟩) c hc) bA ?_;refine tK 4 (pointer (some ⟨ub,0,none⟩)) bA ?_;refine tK 5 (int i64 k) bA ?_;refine tK 6 (pointer (some ⟨ub,1,none⟩)) bA ?_;refine aw1 (i:=7) (v:=agg (hL u.was).toArray) rfl al al al (fun _ _ _ h=>h) (aw9 (by rfl) 43 (tmp 12) rfl ub 1 aw (hL u.was) _ (fun W hW=>hW.2.2) underlying43 rfl (by rw[wY.out];exact iH)) bA ?_;simp only[arx,aru,arv,Act.put,arp,art,ars];refine tK 8 (pointer (some ⟨gh,k*37,none⟩)) bA ?_;have hkl:k<hs.length:=by rw[HCL.out];exact hkc
 obtain⟨hk0,hhk⟩:∃hk0,hs[k]?=some hk0:=⟨_,arq hkl⟩;have JD:Hid (W1.drew.there gh (k*37) 37):=(show bY W1.drew gh hs from HZ1.row.of (Gr.drew (Gr.refl _))).there hhk;have WH:Hid (Ch gh W1.drew (W1.drew.setCells gh (k*37) (hL u.was))):=Mc.Ch.setCells (Ch.refl gh W1.drew) _ _;have ZC:Hid (bY (W1.drew.setCells gh (k*37) (hL u.was)) gh (hs.set k u.was)):=(show bY W1.drew gh hs from HZ1.row.of (Gr.drew (Gr.refl _))).put hkl HOW;have hsz1:=aU.size;refine nE (i:=9) al rfl rfl 43 (tmp 14) (tmp 13) rfl gh (k*37) (hL u.was).toArray aw aw (by rw[asb,wY.out];exact JD) (by rw[asb,wY.out];exact iH) (rW u.was) (uk _ (WH.block z (by show z<W1.heap.size;omega) (fun e=>hzg (by injection e))) (WH.block ub (gs uj).1 (fun e=>hgu (by injection e with e;exact e.symm)))) ?_;refine awT al ?_ _;refine JC (fun W=>Mz W W0.heap.size z M gh hc (hs.set k u.was) m/\W.heap[ub]?=some (.cells x.toArray 121 (0,0))/\Th W0.heap.size w W) ⟨?fa,?fb,?fc⟩ ?_
 case fa=>
  refine⟨?_,HZ1.bz,?_,HZ1.bh,ZC,(show Zh W1.drew gh hc from HZ1.hz.of (Gr.drew (Gr.refl _))).setCells _ _⟩
  ·rw[asn];exact(WH.block z (by show z<W1.heap.size;omega) (fun e=>hzg (by injection e))).trans HZ1.blk
  ·exact HZ1.mem.to fun q ob fz hq=>iZ (w:=W1.drew) (HZ1.row.of (Gr.drew (Gr.refl _))) WH an hq
 case fb=>exact(WH.block ub (gs uj).1 (fun e=>hgu (by injection e with e;exact e.symm))).trans uj
 case fc=>
  obtain⟨rst,hrw⟩:=HZ1.row.row;exact(Th.aJ (Gr.drew aU) hn0).trans (Bj (w:=W1.drew) hrw (.inl rfl) HZ1.bh (by show W0.heap.size<=W1.heap.size;omega) WH)
 rintro W2 ⟨Z2,KU,T2⟩;have HZ2:Hid (Mz W2 W0.heap.size z M gh hc (hs.set k u.was) m):=Z2;have uF:Hid (W2.heap[ub]?=some (.cells x.toArray 121 (0,0))):=KU;have HT2:Hid (Th W0.heap.size w W2):=T2;clear uk bA JD WH ZC uj HZ1 aU hhk hk0 Z2 KU T2 HZ hsz1;clear W1;obtain⟨mo,cap,hMe,hcp,hmo⟩:∃mo cap,M=slice mo mn cap/\mn<=cap/\((mo=none/\mn=0/\cap=0)\/∃mk,mo=some ⟨mk,0,none⟩):=by
  rcases HZ2.mem with⟨h1,h2⟩|⟨mk,cp,h1,⟨_,h3⟩,_⟩
  ·have h0:mn=0:=by rw[<-ZN.out,h2];rfl
   exact⟨none,0,by rw[h1,h0],ab,.inl ⟨rfl,h0,rfl⟩⟩
  ·rw[ZN.out]at h1 h3;exact⟨_,cp,h1,h3,.inr ⟨mk,rfl⟩⟩
 have Zo:Hid (M=slice mo mn cap):=hMe;have hmf:f<=mn:=ab;have q1:(f:Int)<=(mn:Int):=ab;have q2:(mn:Int)<=(cap:Int):=ab;have q3:(0:Int)<=(f:Int):=ab;have uk:Hid (∀V:World,V.heap[z]?=W2.heap[z]?->V.heap[ub]?=W2.heap[ub]?->(fun W=>W.cell? ⟨z,0,none⟩=some (slice mo mn cap)/\W.cell? ⟨ub,38,none⟩=some (int .u32 f)/\W.cell? ⟨ub,39,none⟩=some (slice ba bn bc')) V):=fun V e1 e2=>by
  have h1:=e1.trans HZ2.blk;have h2:=e2.trans uF;rw[Zo.out]at h1;exact⟨fA h1,(cr h2).trans (by rw[arB];exact LK.2.2.1),(cr h2).trans (by rw[arB];exact LK.2.2.2.1)⟩
 clear hMe;go_wp2_with fail;refine awN (S:=fun W=>W.cell? ⟨z,0,none⟩=some (slice mo mn cap)/\W.cell? ⟨ub,38,none⟩=some (int .u32 f)/\W.cell? ⟨ub,39,none⟩=some (slice ba bn bc')) al (uk _ rfl rfl) (fun hHeld=>?_);have bA:Hid _:=hHeld;clear hHeld;refine tK 0 (pointer (some ⟨z,0,none⟩)) bA ?_;refine tK 1 (pointer (some ⟨z,0,none⟩)) bA ?_;refine tK 2 (pointer (some ⟨z,0,none⟩)) bA ?_;refine tK 3 (slice mo mn cap) bA ?_;refine tK 4 (pointer (some ⟨ub,38,none⟩)) bA ?_;refine tK 5 (int .u32 f) bA ?_;refine aw1 (i:=6) (v:=slice (Ez mo cap f) (mn-f) (cap-f)) rfl al al al (fun _ _ _ h=>h) ?hcut bA ?_;simp only[arx,aru,arv,Act.put,arp,art,ars]
 case hcut=>
  rcases hmo with⟨rfl,rfl,rfl⟩|⟨mk,rfl⟩
  ·obtain rfl:f=0:=ab;rw[show Ez none 0 0=none from rfl];exact Or.inl ⟨by rfl,fun W hW=>by obtain⟨y0,y1,y2⟩:=hW;go_simp⟩
  ·by_cases hcf:cap=f
   ·rw[show Ez (some ⟨mk,0,none⟩) cap f=some ⟨mk,0,none⟩from awn hcf];exact Or.inl ⟨by rfl,fun W hW=>by obtain⟨y0,y1,y2⟩:=hW;go_simp⟩
   ·rw[show Ez (some ⟨mk,0,none⟩) cap f=some ⟨mk,f,none⟩by unfold Ez;rw[awm hcf];simp];exact Or.inl ⟨by rfl,fun W hW=>by obtain⟨y0,y1,y2⟩:=hW;go_simp⟩
 refine tK 7 (pointer (some ⟨ub,39,none⟩)) bA ?_;refine tK 8 (slice ba bn bc') bA ?_;refine aww (rs:=[9]) al aq ?_;refine awp rfl (fun K hK=>?_) awu;have kT:Hid (Hc.Own W2.drew W0.heap.size (slice mo mn cap) m):=by have:=HZ2.mem;rw[Zo.out]at this;exact this
 have HB2:Hid (Mem W2.drew ba bn u.bs):=Zn.of (ZM qf (HT2.trans (Th.aJ (Gr.drew (Gr.refl W2)) (arF hn0 HT2.below.size))));refine EA (mo:=mo) (sp:=ba) (mn:=mn) (cap:=cap) (f:=f) (sl:=bn) (sc:=bc') (n:=W0.heap.size) (m:=m) (bs:=u.bs) rfl (tmp 21) (tmp 23) rfl ar ar kT ZN hcp HB2 hfm (arF hn0 HT2.below.size) ?_;intro W3 O3 T3 K3;have HZ3:Hid (Mz W3 W0.heap.size z M gh hc (hs.set k u.was) (lay m f u.bs)):=⟨(K3 _ _ _ _ an (show W2.drew.heap[z]?=_ from HZ2.blk)).trans HZ2.blk,HZ2.bz,by rw[Zo.out];exact O3,HZ2.bh,HZ2.row.to fun q ob fz hq=>K3 q ob _ fz an hq,HZ2.hz.to fun q ob fz hq=>K3 q ob _ fz an hq⟩;have HU3:Hid (W3.heap[ub]?=some (.cells x.toArray 121 (0,0))):=(K3 _ _ _ _ an (show W2.drew.heap[ub]?=_ from uF)).trans uF;have HT3:Hid (Th W0.heap.size w W3):=HT2.trans ((Th.aJ (Gr.drew (Gr.refl W2)) (arF hn0 HT2.below.size)).trans T3);refine hK.out _ _ (uk _ (HZ3.blk.trans (by rw[HZ2.out.blk])) (HU3.trans uF.symm)) (fun hx=>?_);clear hK K hx O3 T3 K3;refine awT al ?_ _;clear uk bA kT HB2 HZ2 uF HT2;clear W2;have k40:W3.cell? ⟨ub,40,none⟩=some (slice l1 l2 l3):=(cr HU3).trans (by rw[arB];exact LK.2.2.2.2);have qY:Hid (u.lost.length=l2):=HLS.len;go_wp2_with fail;go_loopw [28] (fun i wr=>∃q:Nat,q<=l2/\i=int i64 q/\Mz wr W0.heap.size z M gh hc (gives (hs.set k u.was) (u.lost.take q)) (lay m f u.bs)/\Th W0.heap.size w wr) (fun i _=>l2-(intOf i).toNat)
 case atStart=>exact⟨0,arQ _,rfl,HZ3,HT3⟩
 case round=>
  obtain⟨q,hq,rfl,Z4,T4⟩:=hrel;have AU:Hid (Mz wr W0.heap.size z M gh hc (gives (hs.set k u.was) (u.lost.take q)) (lay m f u.bs)):=Z4;have HT4:Hid (Th W0.heap.size w wr):=T4;have fM:Hid (Gr W0 wr):=ZM qf T4;clear Z4 T4 HZ3 HU3 HT3 k40;by_cases hlt:q<l2
  ·obtain⟨p,hp⟩:∃p,u.lost[q]?=some p:=⟨_,arq (by rw[qY.out];exact hlt)⟩;obtain⟨b7,o7,rfl,hb7,hc7⟩:=HLS.spot ab;have z0:wr.cell? ⟨b7,o7+q*2,none⟩=some (int i64 p.1):=(fM.cell _ (by exact hb7)).trans (hc7 q p hp).1;have z1:wr.cell? ⟨b7,o7+q*2+1,none⟩=some (int .u32 p.2):=(fM.cell _ (by exact hb7)).trans (hc7 q p hp).2;obtain⟨⟨p0,p1⟩,p2,p3⟩:=HLQ p (arE hp);have Gw:Hid (gives (hs.set k u.was) (u.lost.take (q+1))=(gives (hs.set k u.was) (u.lost.take q)).set p.1.toNat (((gives (hs.set k u.was) (u.lost.take q)).getD p.1.toNat hN).hold true p.2)):=GJ _ _ hp;have HGL:Hid ((gives (hs.set k u.was) (u.lost.take q)).length=c):=by unfold Hid;rw[oM,asn,HCL.out]
   clear hc7 hp;obtain⟨pa,pb⟩:=p;simp only at *
   obtain⟨v,rfl⟩:=arI p0;simp only[arS]at Gw;have hv:v<c:=ab;generalize gives (hs.set k u.was) (u.lost.take q)=hs4 at *
   obtain⟨h4,hh4⟩:∃h4,hs4[v]?=some h4:=⟨_,arq (by rw[HGL.out];exact hv)⟩;have hgd:hs4.getD v hN=h4:=by simp[List.getD,hh4]
   rw[hgd]at Gw;have xL:=AU.row.ok h4 (arE hh4);have y1:wr.cell? ⟨z,1,none⟩=some (slice (some ⟨gh,0,none⟩) c hc):=by have:=eH AU.blk;rw[HGL.out]at this;exact this
   have c33:wr.cell? ⟨gh,v*37+33,none⟩=some (.bool h4.held):=(AU.row.cell hh4 ab).trans (bu xL 1);have f33:wr.frozen? ⟨gh,v*37+33,none⟩=false:=AU.row.fz _;have hzw:z<wr.heap.size:=(gs AU.blk).1;have hgw:gh<wr.heap.size:=by obtain⟨_,e⟩:=AU.row.row;exact(gs e).1
   clear hgd;go_wp2_with fail;refine JC (fun W=>W.heap[wr.heap.size]?=some (.cells #[int i64 v,int .u32 pb] 159 (0,0))/\Gr wr W) ⟨awk wr _,(Gr.refl _).alloc _⟩ ?_;rintro W5 ⟨KL,G5⟩;obtain⟨lb,hlb⟩:∃lb:Nat,lb=wr.heap.size:=⟨_,rfl⟩;rw[<-hlb]at KL ⊢;have Zx:Hid (W5.heap[lb]?=some (.cells #[int i64 v,int .u32 pb] 159 (0,0))):=KL;have GK:Hid (Mz W5 W0.heap.size z M gh hc hs4 (lay m f u.bs)):=⟨(G5.block _ hzw).trans AU.blk,AU.bz,iO AU.mem G5,AU.bh,AU.row.of G5,AU.hz.of G5⟩;have HT5:Hid (Th W0.heap.size w W5):=HT4.trans (Th.aJ G5 (arF hn0 HT4.below.size));have hgb:gh≠lb:=ab;have a1:W5.cell? ⟨z,1,none⟩=some (slice (some ⟨gh,0,none⟩) c hc):=(G5.cell _ (by exact hzw)).trans y1;have a2:=fA KL;have a3:W5.cell? ⟨gh,v*37+33,none⟩=some (.bool h4.held):=(G5.cell _ (by exact hgw)).trans c33;have a4:W5.frozen? ⟨gh,v*37+33,none⟩=false:=GK.row.fz _;have ZO:Hid (∀(V:World) (i:Nat) (b:Value),V.heap[z]?=W5.heap[z]?->V.heap[lb]?=W5.heap[lb]?->(V.setCell ⟨gh,i,none⟩ b).cell? ⟨z,1,none⟩=some (slice (some ⟨gh,0,none⟩) c hc)/\(V.setCell ⟨gh,i,none⟩ b).cell? ⟨lb,0,none⟩=some (int i64 v)/\(V.setCell ⟨gh,i,none⟩ b).cell? ⟨lb,1,none⟩=some (int .u32 pb)):=fun V i b e1 e2=>by
    have h1:=(hso (w:=V) (a:=⟨gh,i,none⟩) (v:=b) (k:=z) hzg).trans (e1.trans GK.blk);have h2:=(hso (w:=V) (a:=⟨gh,i,none⟩) (v:=b) (k:=lb) hgb.symm).trans (e2.trans Zx);rw[HGL.out]at h1;exact⟨eH h1,fA h2,eH h2⟩
   clear KL G5 hlb AU HT4 fM z0 z1 y1 c33 f33 hzw hgw;go_region_held3 (fun W=>W.cell? ⟨z,1,none⟩=some (slice (some ⟨gh,0,none⟩) c hc)/\W.cell? ⟨lb,0,none⟩=some (int i64 v)) (first|(refine⟨?_,?_⟩<;>assumption)|(exact⟨(ZO _ _ _ rfl rfl).1,(ZO _ _ _ rfl rfl).2.1⟩)) (fail);refine JC (fun W=>Mz W W0.heap.size z M gh hc (hs4.set v { h4 with held:=true }) (lay m f u.bs)/\W.heap[lb]?=some (.cells #[int i64 v,int .u32 pb] 159 (0,0))/\Th W0.heap.size w W) ⟨?ga,?gb,?gc⟩ ?_
   case ga=>
    refine⟨by rw[asn];exact(hso (w:=W5) (a:=⟨gh,v*37+33,none⟩) (v:=.bool true) (k:=z) hzg).trans GK.blk,GK.bz,?_,GK.bh,?_,(show Zh W5.drew gh hc from GK.hz.of (Gr.drew (Gr.refl _))).setCell _ _⟩
    ·obtain⟨_,e⟩:=GK.row.row;exact(show Hc.Own W5.drew _ _ _ from GK.mem).to fun q ob fz hq=>hso (by exact aa hq (show W5.drew.heap[gh]?=_ from e) an)
    ·exact bY.set (show bY W5.drew gh hs4 from GK.row.of (Gr.drew (Gr.refl _))) hh4 ab (lh xL true) ⟨xL.len,xL.reg,xL.oW,xL.gP,xL.zy,xL.BO⟩
   case gb=>exact(hso (w:=W5) (a:=⟨gh,v*37+33,none⟩) (v:=.bool true) (k:=lb) hgb.symm).trans Zx
   case gc=>
    obtain⟨_,e⟩:=GK.row.row;exact(HT5.trans (Th.aJ (Gr.drew (Gr.refl W5)) (arF hn0 HT5.below.size))).trans (Bj (show W5.drew.heap[gh]?=_ from e) (.inl rfl) GK.bh (arF hn0 HT5.below.size) ((Ch.refl gh W5.drew).setCell _ _))
   rintro W6 ⟨Z6,L6,T6⟩;have GL:Hid (Mz W6 W0.heap.size z M gh hc (hs4.set v { h4 with held:=true }) (lay m f u.bs)):=Z6;have HL6:Hid (W6.heap[lb]?=some (.cells #[int i64 v,int .u32 pb] 159 (0,0))):=L6;have HT6:Hid (Th W0.heap.size w W6):=T6;have hh6:(hs4.set v { h4 with held:=true })[v]?=some { h4 with held:=true }:=by rw[asL];rw[HGL.out];exact hv
   have b1:W6.cell? ⟨z,1,none⟩=some (slice (some ⟨gh,0,none⟩) c hc):=by have:=eH Z6.blk;rw[asn,HGL.out]at this;exact this
   have b2':=fA L6;have b3:=eH L6;have b4:W6.cell? ⟨gh,v*37+34,none⟩=some (int .u32 h4.aW):=(Z6.row.cell hh6 ab).trans (bu (h:={ h4 with held:=true }) ⟨xL.len,xL.reg,xL.oW,xL.gP,xL.zy,xL.BO⟩ 2);have b5:W6.frozen? ⟨gh,v*37+34,none⟩=false:=Z6.row.fz _;clear ZO GK Zx HT5 a1 a2 a3 a4 Z6 L6 T6;have ZO:Hid (∀(V:World) (i:Nat) (b:Value),V.heap[z]?=W6.heap[z]?->V.heap[lb]?=W6.heap[lb]?->(V.setCell ⟨gh,i,none⟩ b).cell? ⟨z,1,none⟩=some (slice (some ⟨gh,0,none⟩) c hc)/\(V.setCell ⟨gh,i,none⟩ b).cell? ⟨lb,0,none⟩=some (int i64 v)/\(V.setCell ⟨gh,i,none⟩ b).cell? ⟨lb,1,none⟩=some (int .u32 pb)):=fun V i b e1 e2=>by
    have h1:=(hso (w:=V) (a:=⟨gh,i,none⟩) (v:=b) (k:=z) hzg).trans (e1.trans GL.blk);have h2:=(hso (w:=V) (a:=⟨gh,i,none⟩) (v:=b) (k:=lb) hgb.symm).trans (e2.trans HL6);rw[asn,HGL.out]at h1;exact⟨eH h1,fA h2,eH h2⟩
   go_wp2_with fail;go_region_held3 (fun W=>W.cell? ⟨z,1,none⟩=some (slice (some ⟨gh,0,none⟩) c hc)/\W.cell? ⟨lb,0,none⟩=some (int i64 v)/\W.cell? ⟨lb,1,none⟩=some (int .u32 pb)) (first|(refine⟨?_,?_,?_⟩<;>assumption)|(exact ZO _ _ _ rfl rfl)) (fail);refine JC (fun W=>Mz W W0.heap.size z M gh hc (hs4.set v (h4.hold true pb)) (lay m f u.bs)/\Th W0.heap.size w W) ⟨?ha,?hc'⟩ ?_
   case ha=>
    refine⟨by have:=GL.blk;rw[asn]at this ⊢;exact(hso (w:=W6) (a:=⟨gh,v*37+34,none⟩) (v:=int .u32 pb) (k:=z) hzg).trans this,GL.bz,?_,GL.bh,?_,(show Zh W6.drew gh hc from GL.hz.of (Gr.drew (Gr.refl _))).setCell _ _⟩
    ·obtain⟨_,e⟩:=GL.row.row;exact(show Hc.Own W6.drew _ _ _ from GL.mem).to fun q ob fz hq=>hso (by exact aa hq (show W6.drew.heap[gh]?=_ from e) an)
    ·have:=bY.set (h':=h4.hold true pb) (show bY W6.drew gh (hs4.set v { h4 with held:=true })from GL.row.of (Gr.drew (Gr.refl _))) hh6 ab (iF (h:={ h4 with held:=true }) ⟨xL.len,xL.reg,xL.oW,xL.gP,xL.zy,xL.BO⟩ pb) (xL.hold true p2 p3);rwa[List.set_set]at this
   case hc'=>
    obtain⟨_,e⟩:=GL.row.row;exact(HT6.trans (Th.aJ (Gr.drew (Gr.refl W6)) (arF hn0 HT6.below.size))).trans (Bj (show W6.drew.heap[gh]?=_ from e) (.inl rfl) GL.bh (arF hn0 HT6.below.size) ((Ch.refl gh W6.drew).setCell _ _))
   rintro W7 ⟨Z7,T7⟩;have MN:Hid (Mz W7 W0.heap.size z M gh hc (hs4.set v (h4.hold true pb)) (lay m f u.bs)):=Z7;have HT7:Hid (Th W0.heap.size w W7):=T7;clear Z7 T7 ZO GL HL6 HT6 b1 b2' b3 b4 b5;go_wp2_with fail;go_roundw
   case rel=>exact⟨q+1,ab,by go_num,by rw[Gw.out];exact MN,HT7⟩
   case measure=>simp[intOf];omega
  ·have ZE:Hid (Mz wr W0.heap.size z M gh hc (cZ (hs,m) u).1 (cZ (hs,m) u).2):=by
    rw[HBk.out];have:=AU;rwa[ar5 (by rw[qY.out];omega)]at this
   go_wp2_with fail;go_end0;exact⟨rfl,ZE,HT4⟩
end Ud
namespace Ud
open Go.Shelf Mm Hh Hc Mc
variable{vs:List Uv}
attribute [local go_sem] Oper.semAt_some
section
variable{F:Fence}{op:Oper}{Q:Exit->Act->World->Prop}
theorem gZ (hgd:op.guard=none)(ty)(x)(ho:op.op=.load ty x)(b o)(hx:a.eval x=.pointer (some ⟨b,o,none⟩))(cs)(d)(hc:w.rangeAt b o cs)(hu:P.underlying ty=some d)(hd:d.isRow=true)(hi:(P.info? ty).map (·.size)=some cs.length)(h:wpListIn F n P ops Q rest (a.put op.dst (.agg cs.toArray)) w):wpListIn F n P ops Q (op::rest) a w:=by
 refine wpListIn_plain hgd fun K hK=>?_
 unfold Oper.wpIn;refine⟨by simp[Oper.about,ho],?_⟩;rw[Oper.semAt_plain F _ _ (by rw[ho];intro c hc';cases hc')];unfold execOp;simp only[ho,hx,Instr.loadAt,Instr.sureAddr,axl,axy,aw8,run_loadVar_mid w b o ty cs d hc hu hd hi];exact hK _ _ h
theorem jC (hgd:op.guard=none)(ty)(x y)(ho:op.op=.store ty x y)(g)(cells)(hx:a.eval x=pointer (some ⟨g,0,none⟩))(hy:a.eval y=agg cells)(t)(old)(hb:w.heap[g]?=some (.cells old t (0,0)))(hi:(P.info? ty).map (·.size)=some cells.size)(hold:old.size=cells.size)(h1:cells.all (·.oneCell')=true)(h:wpListIn F n P ops Q rest (a.put op.dst undef) (w.setRow g cells)):wpListIn F n P ops Q (op::rest) a w:=by
 refine wpListIn_plain hgd fun K hK=>?_
 unfold Oper.wpIn;refine⟨by simp[Oper.about,ho],?_⟩;rw[Oper.semAt_plain F _ _ (by rw[ho];intro c hc';cases hc')];unfold execOp;simp only[ho,hx,hy,Instr.storeAt,Instr.sureAddr,axl,axy,aw8,run_storeVar_row w g t ty old cells hb hi hold h1];exact hK _ _ h
end
structure Kr (n:Nat) (w w':World):Prop where
 below:Below n w w'
 keep:∀(k:Nat) (q:Array Value) (t:Nat) (f:Nat×Nat),w.heap[k]?=some (.cells q t f)->t≠43->t≠5->w'.heap[k]?=some (.cells q t f)
theorem Kr.refl (n)(w):Kr n w w:=⟨awX _ _,fun _ _ _ _ h _ _=>h⟩
theorem Kr.trans {n}{A B C}(h:Kr n A B)(k:Kr n B C):Kr n A C:=⟨h.below.trans k.below,fun i q t f e t1 t2=>k.keep i q t f (h.keep i q t f e t1 t2) t1 t2⟩
theorem Th.kr (h:Th n w w'):Kr n w w':=⟨h.below,fun k q t f e t1 t2=>h.row e t1 t2⟩
theorem Th.keeps (h:Th n w w'):KeepsFrom B w w':=⟨h.below.size,fun k o _ e hc=>h.keep k o e (fun q f c=>by subst c;cases hc) (fun q f c=>by subst c;cases hc)⟩
theorem agx (hn:n<=w.heap.size)(W)(l)(o o')(hl:w.heap.size<=l)(h:W.heap[l]?=some o)(hc:o.isCells=false)(hw:o.isWalk=false):Kr n W (W.putObj l o'):=
 ⟨belowK_b hn W l o o' hl h hc hw,fun k q t f e _ _=>by
  have G:=grownBy_putObj' W l o';refine(G.block k (gs e).1 (fun e2=>?_)).trans e;injection e2 with e2;subst e2;rw[e]at h;injection h with h;subst h;cases hc⟩
def Yv (W0:World) (c mn:Nat):Type:={ y:Nat×Uv×List Value // Uc W0 y.2.1 y.2.2/\fT c mn y.2.1=true }
def Yv.u (y:Yv W0 c mn):Uv:=y.1.2.1
def Yv.x (y:Yv W0 c mn):List Value:=y.1.2.2
def Yv.enc {W0:World} {c mn:Nat} (y:Yv W0 c mn):Array Value:=#[int i64 (y.1.1:Int),agg y.x.toArray]
theorem ac1 (U:Us W0 ao N vs)(hN:N≤140737488351232)(hf:∀u∈vs,fT c mn u=true)(m)(l Bs)(J Jx:List (Yv W0 c mn)→World→Prop)(hY:∀pre x W,J pre W->pre.length<N->YieldAt Fence.wide (m-1) prog l (Yv.enc x) W fun e W'=>(e=returned (.bool true)/\J (pre++[x]) W'/\Kr W0.heap.size W W')\/(e=returned (.bool false)/\Jx (pre++[x]) W'))(W)(G:Gr W0 W)(hBs:W.heap[Bs]?=some (.cells #[slice ao N cap] 30 (0,0)))(h0:J [] W):CallsIn Fence.wide m prog 72 #[.func (.yield l) #[] #[],pointer (some ⟨Bs,0,none⟩)] W fun e W'=>(∃v,e=returned v)/\((∃ys:List (Yv W0 c mn),ys.map Yv.u=vs.reverse/\J ys W')\/(∃pre,Jx pre W')):=by
 have HU:=kH U;have HL:=kH U.len;have b0:=fA hBs;have HB:=kH hBs;have HG:=kH G;have HF:=kH hf;have HYY:=kH hY;refine callsIn_of_wp func72 rfl trivial ?_ rfl;simp only[ntmps72,asb,arM,ar8,Nat.reduceAdd,Nat.reduceSub,Array.replicate_succ,Array.replicate_zero,List.push_toArray,List.append_toArray,arT,arU];have e1:IntKind.i64.wrap ((N:Int)-1)=(N:Int)-1:=by simp[IntKind.wrap,IntKind.bits,IntKind.signed];omega
 gi_wp2
 gi_loopw [3] (fun i wr=>∃(k:Nat) (pre:List (Yv W0 c mn)),k<=N/\i=int i64 ((k:Int)-1)/\pre.map Yv.u=(vs.drop k).reverse/\pre.length+k=N/\J pre wr/\Kr W0.heap.size W wr) (fun i _=>(intOf i+1).toNat)
 case atStart=>exact⟨N,[],arA _,by first|rfl|simp,by rw[List.drop_of_length_le (by rw[HL.out];exact arA _)];rfl,aq,h0,Kr.refl _ _⟩
 case round=>
  obtain⟨k,pre,hk,rfl,hpre,hpl,hJ,hK⟩:=hrel;have agz:=kH hpre;have HK:=kH hK;have b1:=fA (hK.keep _ _ _ _ HB an an);by_cases hk0:0<k
  ·obtain⟨q,rfl⟩:∃q,k=q+1:=⟨k-1,ab⟩;obtain⟨u,hu⟩:∃u,vs[q]?=some u:=⟨_,arq (by rw[HL.out];omega)⟩;obtain⟨b,o,rfl,hb,hc⟩:=HU.spot ab;obtain⟨x,hx,hr⟩:=hc q u hu;have RG:=kH (qm hr hb (aw2 HG HK.below));have ER:=kH hx.len;obtain⟨Y,hY1,hY2,hY3⟩:∃Y:Yv W0 c mn,Y.1.1=q/\Y.u=u/\Y.x=x:=⟨⟨(q,u,x),hx,HF u (arE hu)⟩,rfl,rfl,rfl⟩;have Gw:Hid ((pre++[Y]).map Yv.u=(vs.drop q).reverse):=by
    unfold Hid;rw[asl,agz.out];have e:vs.drop q=u::vs.drop (q+1):=by
     obtain⟨hq,rfl⟩:=arw.1 hu;exact asW hq
    rw[e,List.reverse_cons];simp[hY2]
   obtain⟨fn,tmps,assign,body,hy,hR⟩:=HYY pre Y wr hJ ab;have HR:=kH hR;unfold Yv.enc at hy;rw[hY1,hY3]at hy;have z1:(0:Int)<=(q:Int):=ab;have z2:(q:Int)<(N:Int):=ab
   gi_wp2_with (refine gZ rfl 121 _ rfl b (o+q*41) rfl x _ ?r1 underlying121 rfl (by rw[ER.out];exact iU) ?_;(case r1=>exact RG))
   refine⟨fun hd=>(by cases hd),?_⟩;refine RoundIn.mono HR ?_;rintro e W3 (⟨rfl,hJ3,hk3⟩|⟨rfl,hJx3⟩)
   ·have HK3:=kH (HK.trans hk3);have HJ3:=kH hJ3;have e3:IntKind.i64.wrap ((q:Int)-1)=(q:Int)-1:=by simp[IntKind.wrap,IntKind.bits,IntKind.signed];omega
    gi_wp2
    go_roundw
    case rel=>exact⟨q,pre++[Y],ab,by first|rfl|simp,Gw,aE,HJ3,HK3⟩
    case measure=>simp[intOf]
   ·gi_wp2
    refine awt (axf rfl _ _ _) rfl ?_;exact⟨⟨_,rfl⟩,.inr ⟨_,hJx3⟩⟩
  ·obtain rfl:k=0:=ab;have e:pre.map Yv.u=vs.reverse:=by have:=agz;rwa[List.drop_zero]at this
   gi_wp2
   go_end0;exact⟨⟨_,rfl⟩,.inl ⟨pre,e,hJ⟩⟩
theorem rE (a)(len cap)(w):Calls prog 38 #[slice a len cap] w fun e w'=>e=returned (.func (.func 72) #[] #[pointer (some ⟨w.heap.size,0,none⟩)])/\w'=w.alloc (.cells #[slice a len cap] 30):=by go_enter func38,ntmps38;go_wp2;go_ret;exact⟨rfl,rfl⟩
theorem yZ {c mn}(U:Us W0 ao N vs)(hN:N<=140737488351232)(hf:∀u∈vs,fT c mn u=true)(m)(Bs)(w)(G:Gr W0 w)(hBs:w.heap[Bs]?=some (.cells #[slice ao N cap] 30 (0,0))):SeqStopsK Fence.wide m prog 72 #[pointer (some ⟨Bs,0,none⟩)] (Yv.enc (W0:=W0) (c:=c) (mn:=mn)) (Kr W0.heap.size) (fun ys=>ys.map Yv.u=vs.reverse) (fun _=>True) N w:=fun l J Jx W hW _ _ hY h0=>by
 refine(ac1 U hN hf m l Bs J Jx hY W (aw2 G (awH hW G.size)) ((hW.block _ (gs hBs).1).trans hBs) h0).mono ?_;rintro e W' ⟨he,h|⟨pre,h⟩⟩
 ·exact⟨he,.inl h⟩
 ·exact⟨he,.inr ⟨pre,trivial,h⟩⟩
end Ud
namespace Ud
open Go.Shelf Mm Hh Hc Mc
variable{hs:List Hv}
attribute [local go_sem] Oper.semAt_some
def XQ (mn:Nat) (hs:List Hv) (us:List Uv) (st:Int):Int:=if kR mn hs=false then 2 else if us.all (fT hs.length mn)=false then 2 else if st<0\/(us.length:Int)<st then 3 else 0
def noP (Q:Exit→Act→World→Prop):Exit→Act→World→Prop
 | .panic _,_,_=>False
 |e,a,w=>Q e a w
theorem ac2 {c:Code}{Q}(h:c.wp P (noP Q) a w):c.wp P Q a w:=Code.wp_mono (fun e a w h=>by cases e<;>first|exact h|exact h.elim) h
theorem agA {Q}(h:Q .normal a w):noP Q .normal a w:=h
theorem GM:(prog.info? 28).map (·.size)=some 2:=al
theorem MO (H:Hs w ha hn hs)(b1:mn<=140737488351232)(b2:hn<=140737488351232)(h1:kR mn hs=false):Calls prog 17 #[agg #[slice ma mn mc,slice ha hn hc],slice la ln lc,int i64 st] w fun e w'=>e=returned (tuple #[agg #[slice none 0 0,slice none 0 0],int i64 2])/\Gr w w':=by
 have Ej:Hid (∀W:World,Gr w W->Calls prog 34 #[agg #[slice ma mn mc,slice ha hn hc]] W fun e w'=>e=returned (.bool false)/\Gr W w'):=fun W G=>by rw[<-h1];exact ng mc hc mn (H.of G) b1 b2
 go_enter func17,ntmps17;go_wp2_with fail;refine(Ej _ (br.alloc _)).mono ?_;rintro e w1 ⟨rfl,G1⟩;have aU:=kH ((br.alloc _).trans G1);have HA1:=kH ((fQ G1).1);have HB1:=kH ((fQ G1).2);have m0:=fA HA1;have m1:=eH HA1;go_wp2_with (refine awx rfl 28 _ _ rfl (w.heap.size+1) #[slice none 0 0,slice none 0 0] rfl rfl 28 #[slice none 0 0,slice none 0 0] ?hb GM rfl al ?_;(case hb=>exact HB1));refine awt (v:=tuple #[agg _,int i64 2]) (Hr.aL results17 _ _ _ _ _ (0,0) _ _ rfl rfl (J6 HB1) underlying28 rfl GM) rfl ⟨rfl,?_⟩;exact ag aU (asA _) _
theorem MQ {us}(H:Hs w ha hn hs)(U:Us w la ln us)(b1:mn<=140737488351232)(b2:hn<=140737488351232)(b3:ln<=140737488351232)(h1:kR mn hs=true)(h2:us.all (fT hn mn)=false):Calls prog 17 #[agg #[slice ma mn mc,slice ha hn hc],slice la ln lc,int i64 st] w fun e w'=>e=returned (tuple #[agg #[slice none 0 0,slice none 0 0],int i64 2])/\Gr w w':=by
 have Ej:Hid (∀W:World,Gr w W->Calls prog 34 #[agg #[slice ma mn mc,slice ha hn hc]] W fun e w'=>e=returned (.bool true)/\Gr W w'):=fun W G=>by rw[<-h1];exact ng mc hc mn (H.of G) b1 b2
 have EP:Hid (∀W:World,Gr w W->Calls prog 35 #[agg #[slice ma mn mc,slice ha hn hc],slice la ln lc] W fun e w'=>e=returned (.bool false)/\Gr W w'):=fun W G=>by rw[<-h2];exact Bi (U.of G) b1 b2 b3
 go_enter func17,ntmps17;go_wp2_with fail;refine(Ej _ (br.alloc _)).mono ?_;rintro e w1 ⟨rfl,G1⟩;have aU:=kH ((br.alloc _).trans G1);have HA1:=kH ((fQ G1).1);have HB1:=kH ((fQ G1).2);have m0:=fA HA1;have m1:=eH HA1;go_wp2_with fail;refine(EP _ aU).mono ?_;rintro e w2 ⟨rfl,G2⟩;have HG2:=kH (aU.trans G2);have HA2:=kH (Hr.ae G2 HA1);have HB2:=kH (Hr.ae G2 HB1);go_wp2_with (refine awx rfl 28 _ _ rfl (w.heap.size+1) #[slice none 0 0,slice none 0 0] rfl rfl 28 #[slice none 0 0,slice none 0 0] ?hb GM rfl al ?_;(case hb=>exact HB2));refine awt (v:=tuple #[agg _,int i64 2]) (Hr.aL results17 _ _ _ _ _ (0,0) _ _ rfl rfl (J6 HB2) underlying28 rfl GM) rfl ⟨rfl,?_⟩;exact ag HG2 (asA _) _
theorem MR {us}(H:Hs w ha hn hs)(U:Us w la ln us)(b1:mn<=140737488351232)(b2:hn<=140737488351232)(b3:ln<=140737488351232)(h1:kR mn hs=true)(h2:us.all (fT hn mn)=true)(h3:st<0\/(¬st<0/\(ln:Int)<st)):Calls prog 17 #[agg #[slice ma mn mc,slice ha hn hc],slice la ln lc,int i64 st] w fun e w'=>e=returned (tuple #[agg #[slice none 0 0,slice none 0 0],int i64 3])/\Gr w w':=by
 have Ej:Hid (∀W:World,Gr w W->Calls prog 34 #[agg #[slice ma mn mc,slice ha hn hc]] W fun e w'=>e=returned (.bool true)/\Gr W w'):=fun W G=>by rw[<-h1];exact ng mc hc mn (H.of G) b1 b2
 have EP:Hid (∀W:World,Gr w W->Calls prog 35 #[agg #[slice ma mn mc,slice ha hn hc],slice la ln lc] W fun e w'=>e=returned (.bool true)/\Gr W w'):=fun W G=>by rw[<-h2];exact Bi (U.of G) b1 b2 b3
 rcases h3 with h3|⟨h3,h4⟩
 ·skip
  go_enter func17,ntmps17;go_wp2_with fail;refine(Ej _ (br.alloc _)).mono ?_;rintro e w1 ⟨rfl,G1⟩;have aU:=kH ((br.alloc _).trans G1);have HA1:=kH ((fQ G1).1);have HB1:=kH ((fQ G1).2);have m0:=fA HA1;have m1:=eH HA1;go_wp2_with fail;refine(EP _ aU).mono ?_;rintro e w2 ⟨rfl,G2⟩;have HG2:=kH (aU.trans G2);have HA2:=kH (Hr.ae G2 HA1);have HB2:=kH (Hr.ae G2 HB1);go_wp2_with (refine awx rfl 28 _ _ rfl (w.heap.size+1) #[slice none 0 0,slice none 0 0] rfl rfl 28 #[slice none 0 0,slice none 0 0] ?hb GM rfl al ?_;(case hb=>exact HB2));refine awt (v:=tuple #[agg _,int i64 3]) (Hr.aL results17 _ _ _ _ _ (0,0) _ _ rfl rfl (J6 HB2) underlying28 rfl GM) rfl ⟨rfl,?_⟩;exact ag HG2 (asA _) _
 ·skip
  go_enter func17,ntmps17;go_wp2_with fail;refine(Ej _ (br.alloc _)).mono ?_;rintro e w1 ⟨rfl,G1⟩;have aU:=kH ((br.alloc _).trans G1);have HA1:=kH ((fQ G1).1);have HB1:=kH ((fQ G1).2);have m0:=fA HA1;have m1:=eH HA1;go_wp2_with fail;refine(EP _ aU).mono ?_;rintro e w2 ⟨rfl,G2⟩;have HG2:=kH (aU.trans G2);have HA2:=kH (Hr.ae G2 HA1);have HB2:=kH (Hr.ae G2 HB1);go_wp2_with (refine awx rfl 28 _ _ rfl (w.heap.size+1) #[slice none 0 0,slice none 0 0] rfl rfl 28 #[slice none 0 0,slice none 0 0] ?hb GM rfl al ?_;(case hb=>exact HB2));refine awt (v:=tuple #[agg _,int i64 3]) (Hr.aL results17 _ _ _ _ _ (0,0) _ _ rfl rfl (J6 HB2) underlying28 rfl GM) rfl ⟨rfl,?_⟩;exact ag HG2 (asA _) _
theorem RV {ma}{mn mc hc lc}{st}{us}(H:Hs w ha hn hs)(U:Us w la ln us)(b1:mn<=140737488351232)(b2:hn<=140737488351232)(b3:ln<=140737488351232)(hno:¬XQ mn hs us st=0):Calls prog 17 #[agg #[slice ma mn mc,slice ha hn hc],slice la ln lc,int i64 st] w fun e w'=>e=returned (tuple #[agg #[slice none 0 0,slice none 0 0],int i64 (XQ mn hs us st)])/\Gr w w':=by
 have hl:=H.len;have ul:=U.len;unfold XQ at hno ⊢;rw[hl]at hno ⊢;by_cases h1:kR mn hs=false
 ·rw[awn h1];exact MO H b1 b2 h1
 ·rw[awm h1]at hno ⊢;rw[atl]at h1;by_cases h2:us.all (fT hn mn)=false
  ·rw[awn h2];exact MQ H U b1 b2 b3 h1 h2
  ·rw[awm h2]at hno ⊢;rw[atl]at h2;by_cases h3:st<0\/(us.length:Int)<st
   ·rw[awn h3];exact MR H U b1 b2 b3 h1 h2 ab
   ·exact absurd (awm h3) hno
def tC (mo:Option Addr) (cap f:Nat):Option Addr:=if cap=f then mo else mo.map fun ad=>ad.add (f*41)
def MvO (w:World) (b:Nat) (v:Value) (c mn:Nat) (hs:List Hv) (m:List UInt8):Prop:=∃ma mc gh hc,v=agg #[slice ma mn mc,slice (some ⟨gh,0,none⟩) c hc]/\Hc.Own w b (slice ma mn mc) m/\b<=gh/\bY w gh hs/\Zh w gh hc/\hs.length=c/\m.length=mn
theorem XR {q}{us}(U:Us w la ln us)(hq:q<=ln)(hc:ln<=lc):Us w (tC la lc q) (ln-q) (us.drop q):=by
 have hl:=U.len;refine⟨by rw[asz,hl],fun hn=>?_⟩;obtain⟨b,o,rfl,hb,h⟩:=U.spot ab;have e:tC (some ⟨b,o,none⟩) lc q=some ⟨b,o+q*41,none⟩:=by unfold tC;rw[ak,ar6,cK]
 refine⟨b,o+q*41,e,hb,fun j u hj=>?_⟩;rw[asc]at hj;obtain⟨x,h1,h2⟩:=h _ u hj;exact⟨x,h1,fun i v hi=>by have:=h2 i v hi;rw[show o+q*41+j*41+i=o+(q+j)*41+i by omega];exact this⟩
theorem oO (s)(l):l.reverse.foldl cZ s=bI s l:=by unfold bI;rw[List.foldl_reverse]
theorem Mz.kept {z}(Z:Mz w n z M gh hc hs m)(q:∀(k:Nat) (o) (t:Nat) (f),w.heap[k]?=some (.cells o t f)->w'.heap[k]?=w.heap[k]?):Mz w' n z M gh hc hs m:=⟨(q _ _ _ _ Z.blk).trans Z.blk,Z.bz,Z.mem.to fun k o f e=>q k o _ f e,Z.bh,Z.row.to fun k o f e=>q k o _ f e,Z.hz.to fun k o f e=>q k o _ f e⟩
theorem fq {W W':World}{row}{B}(hg:W.grownBy W' row)(hr:∀r,row=some r->B<=r/\∃o,W.heap[r]?=some o/\o.isCells=false):∀(k:Nat) (o) (t:Nat) (f),W.heap[k]?=some (.cells o t f)->W'.heap[k]?=W.heap[k]?:=fun k o t f e=>by refine hg.block k (gs e).1 (fun e2=>?_);obtain⟨_,ob,h1,h2⟩:=hr k e2.symm;rw[e]at h1;injection h1 with h1;subst h1;cases h2
theorem RX (s)(u)(h1:s.1.length=c)(h2:s.2.length=mn)(hf:fT c mn u=true)(f0:0<=u.fr):(cZ s u).1.length=c/\(cZ s u).2.length=mn:=by unfold fT at hf;simp only[arR,awD]at hf;have:=hf.2.2.1;unfold cZ lay;refine⟨by simp[oM,h1],?_⟩;simp;omega
theorem l6 {c mn:Nat}:∀(l:List Uv) (s:List Hv×List UInt8),s.1.length=c→s.2.length=mn→(∀u∈l,fT c mn u=true∧0≤u.fr)→(l.foldl cZ s).1.length=c∧(l.foldl cZ s).2.length=mn
 | [],s,h1,h2,_=>⟨h1,h2⟩
 |u::r,s,h1,h2,h=>by
  have:=RX s u h1 h2 (h u aq).1 (h u aq).2;exact l6 r (cZ s u) this.1 this.2 (fun v hv=>h v (by simp[hv]))
theorem MS {us}(M:Mem w ma mn m)(hcap:ma=none->mc=0)(H:Hs w ha hn hs)(U:Us w la ln us)(b3:ln<=140737488351232)(hlc:ln<=lc)(hy:XQ mn hs us st=0):Calls prog 17 #[agg #[slice ma mn mc,slice ha hn hc],slice la ln lc,int i64 st] w fun e w'=>∃v,e=returned (tuple #[v,int i64 0])/\MvO w' w.heap.size v hn mn (bI (hs,m) (us.drop (ln-st.toNat))).1 (bI (hs,m) (us.drop (ln-st.toNat))).2/\Gr w w':=by
 have hl:=H.len;have ul:=U.len;have ml:=M.len;unfold XQ at hy;rw[hl]at hy;by_cases h1:kR mn hs=false
 ·rw[awn h1]at hy;cases hy
 rw[awm h1,atl]at *
 by_cases h2:us.all (fT hn mn)=false
 ·rw[awn h2]at hy;cases hy
 rw[awm h2,atl]at *
 by_cases h3:st<0\/(us.length:Int)<st
 ·rw[awn h3]at hy;cases hy
 clear hy;obtain⟨s,rfl⟩:=arI (show 0<=st by omega);have hs1:¬(s:Int)<0:=ab;have hs2:¬(ln:Int)<(s:Int):=ab;have hs3:s<=ln:=ab;rw[arS];have hmm:mn<=4096/\1<=hn/\hn<=4:=by
  unfold kR at h1;simp only[arR,awD,hl]at h1;exact h1.1
 obtain⟨m4,n1,n4⟩:=hmm;have b1:mn<=140737488351232:=ab;have b2:hn<=140737488351232:=ab;have Ej:Hid (∀W:World,Gr w W->Calls prog 34 #[agg #[slice ma mn mc,slice ha hn hc]] W fun e w'=>e=returned (.bool true)/\Gr W w'):=fun W G=>by rw[<-h1];exact ng mc hc mn (H.of G) b1 b2
 have EP:Hid (∀W:World,Gr w W->Calls prog 35 #[agg #[slice ma mn mc,slice ha hn hc],slice la ln lc] W fun e w'=>e=returned (.bool true)/\Gr W w'):=fun W G=>by rw[<-h2];exact Bi (U.of G) b1 b2 b3
 have HUD:Hid (Us w (tC la lc (ln-s)) (ln-(ln-s)) (us.drop (ln-s))):=XR U ab hlc;have HFU:Hid (∀u∈us.drop (ln-s),fT hn mn u=true):=fun u hu=>by
  have:=ar0.1 h2 u (as7 hu);exact this
 have hla:(la=none/\ln=0)\/∃b o,la=some ⟨b,o,none⟩\/ln=0:=by
  by_cases h0:0<ln
  ·obtain⟨b,o,e,_⟩:=U.spot h0;exact .inr ⟨b,o,.inl e⟩
  ·exact .inr ⟨0,0,.inr ab⟩
 obtain⟨hb,ho,he,_,_⟩:=H.spot ab;subst he;have C1:Hid (∀W:World,Gr w W->Calls prog 36 #[slice ma mn mc] W fun e w'=>∃a c,e=returned (slice a mn c)/\Hc.Own w' w.heap.size (slice a mn c) m/\Gr W w'):=fun W G=>(sI (M.of G) hcap ab).mono fun e w' ⟨v,e1,e2,e3⟩=>by
  obtain⟨a,c,rfl,_⟩:=e2.mem;rw[ml]at e1 e2;exact⟨a,c,e1,e2.base (w':=w') G.size,e3⟩
 have C2:Hid (∀W:World,Gr w W->Calls prog 37 #[slice (some ⟨hb,ho,none⟩) hn hc] W fun e w'=>∃g c,e=returned (slice (some ⟨g,0,none⟩) hn c)/\w.heap.size<=g/\(bY w' g hs/\Zh w' g c)/\Gr W w'):=fun W G=>(vS hc (H.of G) n1 n4).mono fun e w' ⟨g,c,e1,e2,e3⟩=>⟨g,c,e1,arF G.size e2,e3⟩
 have wY:=kH hl;have ZN:=kH ml;have HUL:=kH ul;have e1:IntKind.i64.wrap ((ln:Int)-(s:Int))=((ln-s:Nat):Int):=by simp[IntKind.wrap,IntKind.bits,IntKind.signed];omega
 clear H U M hcap h1 h2 h3 hl ul ml;refine callsIn_wide.1 (callsIn_of_wp_marks (F:=Fence.wide) (n:=9) func17 rfl trivial ?_ rfl);refine wpIn_wide.2 ?_;simp only[ntmps17,asb,arM,ar8,Nat.reduceAdd,Nat.reduceSub,Array.replicate_succ,Array.replicate_zero,List.push_toArray,List.append_toArray,arT,arU];go_wp2_with fail;refine(Ej _ (br.alloc _)).mono ?_;rintro e w1 ⟨rfl,G1⟩;have aU:=kH ((br.alloc _).trans G1);have HA1:=kH ((fQ G1).1);have HB1:=kH ((fQ G1).2);have m0:=fA HA1;have m1:=eH HA1;clear G1 Ej;go_wp2_with fail;refine(EP _ aU).mono ?_;rintro e w2 ⟨rfl,G2⟩;have HG2:=kH (aU.trans G2);have HA2:=kH (Hr.ae G2 HA1);have HB2:=kH (Hr.ae G2 HB1);clear G2 EP m0 m1 aU HA1 HB1;have m0:=fA HA2;have m1:=eH HA2;go_wp2_with fail;have uk:Hid (∀V:World,Gr w2 V->(fun W=>W.cell? ⟨w.heap.size,0,none⟩=some (slice ma mn mc)/\W.cell? ⟨w.heap.size,1,none⟩=some (slice (some ⟨hb,ho,none⟩) hn hc)) V):=fun V G=>⟨fA (Hr.ae G HA2),eH (Hr.ae G HA2)⟩
 refine ac2 ?_;refine awN (S:=fun W=>W.cell? ⟨w.heap.size,0,none⟩=some (slice ma mn mc)/\W.cell? ⟨w.heap.size,1,none⟩=some (slice (some ⟨hb,ho,none⟩) hn hc)) al (uk _ (Gr.drew (Gr.refl _))) (fun hHeld=>?_);have bA:=kH hHeld;clear hHeld;refine tK 0 (pointer (some ⟨w.heap.size,0,none⟩)) bA ?_;refine tK 1 (slice ma mn mc) bA ?_;refine tK 3 (pointer (some ⟨w.heap.size,1,none⟩)) bA ?_;refine tK 4 (slice (some ⟨hb,ho,none⟩) hn hc) bA ?_;obtain⟨FA,HFA⟩:∃FA:Nat->Option Addr->Nat->Nat->Nat->World->Prop,Hid (FA=fun(z:Nat) (a2:Option Addr) (c2 g3 c3:Nat) (V:World)=>V.heap[z]?=some (.cells #[slice none 0 0,slice none 0 0] 28 (0,0))/\w2.heap.size<=z/\Hc.Own V w.heap.size (slice a2 mn c2) m/\w.heap.size<=g3/\(bY V g3 hs/\Zh V g3 c3)/\Gr w2 V):=⟨_,rfl⟩;have HD:Hid (Gr w2 w2.drew):=Gr.drew (Gr.refl _);apply RJ
 ·intro jW;refine aww (rs:=[2,7]) al aq ?_;refine awp rfl (fun K hK=>?_) (awp rfl (fun K hK=>?_) awu)
  ·skip
   go_simp;refine(C1 _ (HG2.trans HD)).mono ?_;rintro e w3 ⟨a2,c2,rfl,O3,G3⟩;have zS:=kH O3;have eO:=kH (Gr.trans HD G3);refine hK.out _ _ (uk _ eO) (fun hx=>?_);clear hK K hx O3;refine aww (rs:=[5,7]) al aq ?_;refine awp rfl (fun K hK=>?_) (awp rfl (fun K hK=>?_) awu)
   ·skip
    go_simp;refine(C2 _ (HG2.trans eO)).mono ?_;rintro e w4 ⟨g3,c3,rfl,hg3,R4,G4⟩;have fM:=kH (Gr.trans eO G4);refine hK.out _ _ (uk _ fM) (fun hx=>?_);clear hK K hx;refine tK 6 (agg #[slice a2 mn c2,slice (some ⟨g3,0,none⟩) hn c3]) (uk _ fM) ?_;refine aww (rs:=[7]) al aq ?_;refine awp rfl (fun K hK=>?_) awu;go_simp;refine hK.out _ _ (uk _ (Gr.alloc fM _)) (fun hx=>?_);clear hK K hx;obtain⟨z,hz⟩:∃z:Nat,z=w4.heap.size:=⟨_,rfl⟩;rw[<-hz];refine JC (FA z a2 c2 g3 c3) ?hfa ?_
    case hfa=>rw[HFA.out];exact⟨by rw[hz];exact awk w4 _,by rw[hz];exact fM.size,iO (iO zS G4) br,hg3,⟨R4.1.of br,R4.2.of br⟩,Gr.alloc fM _⟩
    clear hz fM eO zS hg3 R4 G3 G4;clear w4 w3
    revert z a2 c2 g3 c3
    exact jW.out
   ·skip
    go_simp;refine hK.out _ _ (uk _ (Gr.alloc eO _)) (fun hx=>?_);clear hK K hx;refine aww (rs:=[5]) al aq ?_;refine awp rfl (fun K hK=>?_) awu;go_simp;refine(C2 _ (HG2.trans (Gr.alloc eO _))).mono ?_;rintro e w4 ⟨g3,c3,rfl,hg3,R4,G4⟩;have fM:=kH (Gr.trans (Gr.alloc eO _) G4);refine hK.out _ _ (uk _ fM) (fun hx=>?_);clear hK K hx;refine tK 6 (agg #[slice a2 mn c2,slice (some ⟨g3,0,none⟩) hn c3]) (uk _ fM) ?_;obtain⟨z,hz⟩:∃z:Nat,z=w3.heap.size:=⟨_,rfl⟩;rw[<-hz];refine JC (FA z a2 c2 g3 c3) ?hfa ?_
    case hfa=>rw[HFA.out];exact⟨by rw[hz];exact Hr.ae G4 (awk w3 _),by rw[hz];exact eO.size,iO zS (Gr.trans br G4),hg3,R4,fM⟩
    clear hz fM eO zS hg3 R4 G3 G4;clear w4 w3
    revert z a2 c2 g3 c3
    exact jW.out
  ·skip
   go_simp;refine hK.out _ _ (uk _ (Gr.alloc HD _)) (fun hx=>?_);clear hK K hx;refine aww (rs:=[2]) al aq ?_;refine awp rfl (fun K hK=>?_) awu;go_simp;refine(C1 _ (HG2.trans (Gr.alloc HD _))).mono ?_;rintro e w3 ⟨a2,c2,rfl,O3,G3⟩;have zS:=kH O3;have eO:=kH (Gr.trans (Gr.alloc HD _) G3);refine hK.out _ _ (uk _ eO) (fun hx=>?_);clear hK K hx O3;refine aww (rs:=[5]) al aq ?_;refine awp rfl (fun K hK=>?_) awu;go_simp;refine(C2 _ (HG2.trans eO)).mono ?_;rintro e w4 ⟨g3,c3,rfl,hg3,R4,G4⟩;have fM:=kH (Gr.trans eO G4);refine hK.out _ _ (uk _ fM) (fun hx=>?_);clear hK K hx;refine tK 6 (agg #[slice a2 mn c2,slice (some ⟨g3,0,none⟩) hn c3]) (uk _ fM) ?_;obtain⟨z,hz⟩:∃z:Nat,z=w2.heap.size:=⟨_,rfl⟩;rw[<-hz];refine JC (FA z a2 c2 g3 c3) ?hfa ?_
   case hfa=>rw[HFA.out];exact⟨by rw[hz];exact Hr.ae G4 (Hr.ae G3 (awk w2.drew _)),by rw[hz];exact arA _,iO zS G4,hg3,R4,fM⟩
   clear hz fM eO zS hg3 R4 G3 G4;clear w4 w3
   revert z a2 c2 g3 c3
   exact jW.out
 intro a2 c2 g3 c3 z V hF;rw[HFA.out]at hF;obtain⟨kz,hz2,O5,hg5,R5,G5⟩:=hF;have HBH:=kH hg5;have HKz:=kH kz;have hb2:=(gs HB2).1;have GK:Hid (Mz (V.setRow z #[slice a2 mn c2,slice (some ⟨g3,0,none⟩) hn c3]) w.heap.size z (slice a2 mn c2) g3 c3 hs m):=by
  have st:∀(k:Nat) (q:Array Value) (t:Nat) (f:Nat×Nat),t≠28->V.heap[k]?=some (.cells q t f)->(V.setRow z #[slice a2 mn c2,slice (some ⟨g3,0,none⟩) hn c3]).heap[k]?=V.heap[k]?:=fun k q t f ht hk=>uI (aa hk kz ht)
  refine⟨?_,ab,O5.to fun k o f e=>st k o _ f an e,hg5,R5.1.to fun k o f e=>st k o _ f an e,R5.2.to fun k o f e=>st k o _ f an e⟩;rw[wY.out];exact J6 kz
 have kg:Hid (Gr w2 (V.setRow z #[slice a2 mn c2,slice (some ⟨g3,0,none⟩) hn c3])):=ag G5 hz2 _;clear kz O5 hg5 R5 G5;refine aww (rs:=[8]) al aq ?_;refine awp rfl (fun K hK=>?_) awu;refine iM rfl 28 (tmp 8) (tmp 36) rfl z #[slice a2 mn c2,slice (some ⟨g3,0,none⟩) hn c3] aw aw 28 #[slice none 0 0,slice none 0 0] HKz GM rfl al ?_;refine hK.out _ _ (uk _ kg) (fun hx=>?_);clear hK K hx;refine awT al ?_ _;refine agA ?_;generalize V.setRow z #[slice a2 mn c2,slice (some ⟨g3,0,none⟩) hn c3]=W3 at *
 have HB3:=kH (Hr.ae kg HB2);have eO:=kH (HG2.trans kg);have hzr:z≠w.heap.size+1:=ab;clear HKz uk bA HFA HD FA HA2 HB2 HG2 kg m0 m1 C1 C2 hz2;clear V;obtain⟨q,hq⟩:∃q:Nat,q=ln-s:=⟨_,rfl⟩;have HQ:=kH hq;have hql:q<=ln:=ab;have hqi:(q:Int)<=(ln:Int):=ab;have hqc:(ln:Int)<=(lc:Int):=ab;rw[<-hq]at e1 HUD;clear hq;by_cases hcl:lc=q
 ·subst hcl;have h0:ln-lc=0:=ab;have HX:Hid (Us w la 0 (us.drop (ln-s))):=by have:=HUD;unfold tC at this;rw[awn rfl,h0]at this;rw[<-HQ.out];exact this
  go_wp2_with fail;refine(rE _ _ _ _).mono ?_;rintro e w5 ⟨rfl,rfl⟩;go_wp2_with fail;have NI:Hid ((W3.alloc (.cells #[slice la 0 0] 30)).heap[W3.heap.size]?=some (.cells #[slice la 0 0] 30 (0,0))):=awk W3 _;have kg:Hid (Gr w (W3.alloc (.cells #[slice la 0 0] 30))):=eO.alloc _;have GL:Hid (Mz (W3.alloc (.cells #[slice la 0 0] 30)) w.heap.size z (slice a2 mn c2) g3 c3 hs m):=GK.kept fun k o t f e=>((Gr.refl W3).alloc _).block _ (gs e).1
  have Zy:Hid ((W3.alloc (.cells #[slice la 0 0] 30)).heap[w.heap.size+1]?=some (.cells #[slice none 0 0,slice none 0 0] 28 (0,0))):=Hr.ae ((Gr.refl W3).alloc _) HB3;generalize hW6:W3.alloc (.cells #[slice la 0 0] 30)=W6 at *
  have hw6:=kg.size;clear hW6;refine(wpIn_wide (n:=9)).1 ?_
  refine wpIn_rangeFunc_ownH (F:=Fence.wide) (n:=9) rfl ab (gf:=72) (lb:=#[pointer (some ⟨W3.heap.size,0,none⟩)]) rfl trivial (enters_of func72 al rfl)
   (yZ (c:=hn) (mn:=mn) HX ab HFU (9-1) W3.heap.size W6 kg NI) Kr.trans (agx hw6) (awX _ _) (fun _=>rfl)
   (fun pre W=>(Mz W w.heap.size z (slice a2 mn c2) g3 c3 ((pre.map Yv.u).foldl cZ (hs,m)).1 ((pre.map Yv.u).foldl cZ (hs,m)).2/\W.heap[w.heap.size+1]?=some (.cells #[slice none 0 0,slice none 0 0] 28 (0,0)))/\Below w.heap.size w W)
   (fun _ _ _=>False)
   (OwnFrom.and (fun s X X' row h hg hr=>⟨h.1.kept (fq hg hr),(fq hg hr _ _ _ _ h.2).trans h.2⟩) (ownFrom_below (arA _) hw6))
   (fun _ _ _ _ _ h _ _=>h)
   ⟨⟨GL,Zy⟩,kg⟩
   (fun y a' W=>∃Bx,W.heap[Bx]?=some (.cells y.x.toArray 121 (0,0))/\a'={ tmps:=#[agg #[slice ma mn mc,slice (some ⟨hb,ho,none⟩) hn hc],slice la ln lc,int i64 s,pointer (some ⟨w.heap.size,0,none⟩),undef,undef,pointer (some ⟨(w.heap.size+1),0,none⟩),int i64 0,pointer (some ⟨z,0,none⟩),undef,pointer (some ⟨Bx,0,none⟩),agg #[slice ma mn mc,slice (some ⟨hb,ho,none⟩) hn hc],.bool true,.bool false,.bool false,agg #[slice ma mn mc,slice (some ⟨hb,ho,none⟩) hn hc],slice la ln lc,.bool true,.bool false,.bool false,undef,int i64 s,.bool (decide ((s:Int)<0)),.bool (decide ((s:Int)<0)),int i64 s,slice la ln lc,int i64 ln,.bool false,.bool (decide ((s:Int)<0)),undef,pointer (some ⟨w.heap.size,0,none⟩),slice ma mn mc,slice a2 mn c2,pointer (some ⟨w.heap.size,1,none⟩),slice (some ⟨hb,ho,none⟩) hn hc,slice (some ⟨g3,0,none⟩) hn c3,agg #[slice a2 mn c2,slice (some ⟨g3,0,none⟩) hn c3],slice la ln lc,slice la ln lc,int i64 ln,int i64 s,int i64 lc,slice la 0 0,.func (.func 72) #[] #[pointer (some ⟨W3.heap.size,0,none⟩)],int i64 (y.1.1:Int),agg y.x.toArray,undef,undef,undef],defers:=[] })
   (fun y a' _ X X' row h hg hr=>by obtain⟨Bx,h1,h2⟩:=h;exact⟨Bx,(fq hg hr _ _ _ _ h1).trans h1,h2⟩)
   ?assign ?body ?done ?stop
  case assign=>
   rintro l pre y W K ⟨⟨Z7,B7⟩,L7⟩ hK;have ER:Hid (y.x.length=41):=y.2.1.len;have ES:Hid (y.x.toArray.size=41):=by unfold Hid;simp[ER.out]
   have jy:Hid (y.x.toArray.all (·.oneCell')=true):=y.2.1.one;unfold Yv.enc;have G7:∀Y:Array Value,Gr W ((W.alloc (.cells Y 121)).setRow W.heap.size y.x.toArray):=fun Y=>ag br (arA _) _
   have Bh:Hid _:=G7;have HK:Hid _:=hK;have MN:Hid (Mz W w.heap.size z (slice a2 mn c2) g3 c3 ((pre.map Yv.u).foldl cZ (hs,m)).1 ((pre.map Yv.u).foldl cZ (hs,m)).2):=Z7;have uS:Hid (W.heap[w.heap.size+1]?=some (.cells #[slice none 0 0,slice none 0 0] 28 (0,0))):=B7;have Jf:Hid (Below w.heap.size w W):=L7;have hwl:=L7.size;clear hK Z7 B7 L7 G7
   gi_wp2_with (refine jC rfl 121 _ _ rfl W.heap.size y.x.toArray rfl rfl 121 _ (awk W _) (by rw[ES.out];exact iU) (by rw[ES.out];rfl) jy ?_)
   exact HK _ _ ((Th.aJ (n:=w.heap.size) (Bh _) hwl).keeps) ((Th.aJ (Bh _) hwl).kr) ⟨⟨MN.kept fun k o t f e=>(Bh _).block _ (gs e).1,Hr.ae (Bh _) uS⟩,Jf.trans (awH (Bh _) hwl)⟩ ⟨W.heap.size,J6 (awk W _),rfl⟩
  case body=>
   rintro l pre y a' W hl hr ⟨⟨Z7,B7⟩,L7⟩ ⟨Bx,hBx,rfl⟩ hlt;dsimp only;have hfl:=l6 (pre.map Yv.u) (hs,m) wY ZN (fun u hu=>by
    obtain⟨y',_,rfl⟩:=arY.1 hu;obtain⟨_,_,_,_,_,_,_,ok,_⟩:=y'.2.1;exact⟨y'.2.2,ok.f0⟩)
   have ER:Hid (y.x.length=41):=y.2.1.len;have RG:Hid (W.rangeAt Bx 0 y.x):=fun i v hi=>by rw[arH,cr hBx,arB];exact hi
   have HTB:Hid (Calls prog 39 #[pointer (some ⟨z,0,none⟩),agg y.x.toArray] W fun e w'=>e=returned (tuple #[])/\Mz w' w.heap.size z (slice a2 mn c2) g3 c3 (((pre++[y]).map Yv.u).foldl cZ (hs,m)).1 (((pre++[y]).map Yv.u).foldl cZ (hs,m)).2/\Th w.heap.size W w'):=by
    have:=rD y.2.1 L7 Z7 hfl.1 n4 hfl.2 m4 y.2.2;have e:((pre++[y]).map Yv.u).foldl cZ (hs,m)=cZ ((pre.map Yv.u).foldl cZ (hs,m)) y.u:=by rw[asl,asJ];rfl
    rw[e];exact this
   have uS:Hid (W.heap[w.heap.size+1]?=some (.cells #[slice none 0 0,slice none 0 0] 28 (0,0))):=B7;have Jf:Hid (Below w.heap.size w W):=L7;clear Z7 B7 L7 hfl hBx hr hlt
   gi_wp2_with (first
    |(refine gZ rfl 121 _ rfl Bx 0 rfl y.x _ ?r1 underlying121 rfl (by rw[ER.out];exact iU) ?_;(case r1=>exact RG))
    |(refine⟨trivial,?_⟩;gi_at_call 39;refine(CallsIn.inRound l (callsIn_wide.2 HTB)).mono ?_;rintro e w8 ⟨rfl,Z8,T8⟩))
   exact⟨T8.keeps,T8.kr,⟨Z8,T8.row uS an an⟩,Jf.trans T8.below⟩
  case done=>
   rintro D ys W hD hys ⟨⟨Z7,B7⟩,L7⟩ hK;rw[hys,oO]at Z7;have hfl:(bI (hs,m) (us.drop (ln-s))).1.length=hn/\(bI (hs,m) (us.drop (ln-s))).2.length=mn:=by
    rw[<-oO];refine l6 _ (hs,m) wY ZN (fun u hu=>?_);rw[<-hys]at hu;obtain⟨y',_,rfl⟩:=arY.1 hu;obtain⟨_,_,_,_,_,_,_,ok,_⟩:=y'.2.1;exact⟨y'.2.2,ok.f0⟩
   have MN:Hid (Mz W w.heap.size z (slice a2 mn c2) g3 c3 (bI (hs,m) (us.drop (ln-s))).1 (bI (hs,m) (us.drop (ln-s))).2):=Z7;have HFL:Hid _:=hfl;generalize hbk:(bI (hs,m) (us.drop (ln-s)))=bk at *
   have uS:Hid (W.heap[w.heap.size+1]?=some (.cells #[slice none 0 0,slice none 0 0] 28 (0,0))):=B7;have kz:W.heap[z]?=some (.cells #[slice a2 mn c2,slice (some ⟨g3,0,none⟩) hn c3] 28 (0,0)):=by have:=Z7.blk;rw[hfl.1]at this;exact this
   have HKz:Hid _:=kz;have Jf:Hid (Gr w W):=L7;have HKD:Hid (W.heap[D]?=some (.deferred (some []))):=hK;clear Z7 B7 L7 hK kz hfl hys
   go_wp2_with (first
    |(refine aw6 rfl 28 _ rfl z rfl 28 #[slice a2 mn c2,slice (some ⟨g3,0,none⟩) hn c3] (0,0) _ ?yy1 underlying28 rfl GM ?_;(case yy1=>exact HKz))
    |(refine awx rfl 28 _ _ rfl (w.heap.size+1) #[slice a2 mn c2,slice (some ⟨g3,0,none⟩) hn c3] rfl rfl 28 #[slice none 0 0,slice none 0 0] ?yy2 GM rfl al ?_;(case yy2=>exact uS)))
   have hDr:D≠w.heap.size+1:=by have:=(gs Zy).1;omega
   have HK9:Hid ((W.setRow (w.heap.size+1) #[slice a2 mn c2,slice (some ⟨g3,0,none⟩) hn c3]).heap[D]?=some (.deferred (some []))):=(uI hDr).trans HKD;have H9b:Hid ((W.setRow (w.heap.size+1) #[slice a2 mn c2,slice (some ⟨g3,0,none⟩) hn c3]).heap[w.heap.size+1]?=some (.cells #[slice a2 mn c2,slice (some ⟨g3,0,none⟩) hn c3] 28 (0,0))):=J6 uS;have H9:Hid (Hc.Own (W.setRow (w.heap.size+1) #[slice a2 mn c2,slice (some ⟨g3,0,none⟩) hn c3]) w.heap.size (slice a2 mn c2) bk.2/\bY (W.setRow (w.heap.size+1) #[slice a2 mn c2,slice (some ⟨g3,0,none⟩) hn c3]) g3 bk.1/\Zh (W.setRow (w.heap.size+1) #[slice a2 mn c2,slice (some ⟨g3,0,none⟩) hn c3]) g3 c3):=⟨MN.mem.to fun k o f e=>uI (aa e uS an),MN.row.to fun k o f e=>uI (aa e uS an),MN.hz.to fun k o f e=>uI (aa e uS an)⟩;have HG9:Hid (Gr w (W.setRow (w.heap.size+1) #[slice a2 mn c2,slice (some ⟨g3,0,none⟩) hn c3])):=ag Jf (asA _) _;have HBk:Hid (bk=bI (hs,m) (us.drop (ln-s))):=by unfold Hid;exact hbk.symm
   rw[hbk];generalize W.setRow (w.heap.size+1) #[slice a2 mn c2,slice (some ⟨g3,0,none⟩) hn c3]=W9 at *
   have kc:=fq (B:=0) (grownBy_putObj' W9 D (.deferred none)) (fun r e=>by cases e;exact⟨arQ _,_,HK9,rfl⟩);refine⟨aq,.inl ⟨D,_,rfl,run_takeDeferred HK9,?_⟩⟩;refine⟨_,Hr.aL results17 _ _ _ _ _ (0,0) _ _ rfl rfl ((kc _ _ _ _ H9b).trans H9b) underlying28 rfl GM,_,rfl,?_,aw2 HG9 (belowK_b (w:=w) (arA _) W9 D _ _ ab HK9 rfl rfl)⟩;obtain⟨l1,l2⟩:=HFL;have O10:=H9.1.to (w':=W9.putObj D (.deferred none)) fun k o f e=>kc k o _ f e
   have R10:=H9.2.1.to (w':=W9.putObj D (.deferred none)) fun k o f e=>kc k o _ f e
   have Z10:=H9.2.2.to (w':=W9.putObj D (.deferred none)) fun k o f e=>kc k o _ f e
   exact⟨_,_,_,_,rfl,O10,HBH,R10,Z10,l1,l2⟩
  case stop=>
   rintro D c pre W _ _ h _;exact h.elim
 ·have HX:Hid (Us w (la.map fun x=>x.add (q*41)) (ln-q) (us.drop (ln-s))):=by have:=HUD;unfold tC at this;rw[awm hcl]at this;rw[<-HQ.out];exact this
  go_wp2_with fail;refine(rE _ _ _ _).mono ?_;rintro e w5 ⟨rfl,rfl⟩;go_wp2_with fail;have NI:Hid ((W3.alloc (.cells #[slice (la.map fun x=>x.add (q*41)) (ln-q) (lc-q)] 30)).heap[W3.heap.size]?=some (.cells #[slice (la.map fun x=>x.add (q*41)) (ln-q) (lc-q)] 30 (0,0))):=awk W3 _;have kg:Hid (Gr w (W3.alloc (.cells #[slice (la.map fun x=>x.add (q*41)) (ln-q) (lc-q)] 30))):=eO.alloc _;have GL:Hid (Mz (W3.alloc (.cells #[slice (la.map fun x=>x.add (q*41)) (ln-q) (lc-q)] 30)) w.heap.size z (slice a2 mn c2) g3 c3 hs m):=GK.kept fun k o t f e=>((Gr.refl W3).alloc _).block _ (gs e).1
  have Zy:Hid ((W3.alloc (.cells #[slice (la.map fun x=>x.add (q*41)) (ln-q) (lc-q)] 30)).heap[w.heap.size+1]?=some (.cells #[slice none 0 0,slice none 0 0] 28 (0,0))):=Hr.ae ((Gr.refl W3).alloc _) HB3;generalize hW6:W3.alloc (.cells #[slice (la.map fun x=>x.add (q*41)) (ln-q) (lc-q)] 30)=W6 at *
  have hw6:w.heap.size<=W6.heap.size:=kg.size;clear hW6;refine(wpIn_wide (n:=9)).1 ?_
  refine wpIn_rangeFunc_ownH (F:=Fence.wide) (n:=9) rfl ab (gf:=72) (lb:=#[pointer (some ⟨W3.heap.size,0,none⟩)]) rfl trivial (enters_of func72 al rfl)
   (yZ (c:=hn) (mn:=mn) HX ab HFU (9-1) W3.heap.size W6 kg NI) Kr.trans (agx hw6) (awX _ _) (fun _=>rfl)
   (fun pre W=>(Mz W w.heap.size z (slice a2 mn c2) g3 c3 ((pre.map Yv.u).foldl cZ (hs,m)).1 ((pre.map Yv.u).foldl cZ (hs,m)).2/\W.heap[w.heap.size+1]?=some (.cells #[slice none 0 0,slice none 0 0] 28 (0,0)))/\Below w.heap.size w W)
   (fun _ _ _=>False)
   (OwnFrom.and (fun s X X' row h hg hr=>⟨h.1.kept (fq hg hr),(fq hg hr _ _ _ _ h.2).trans h.2⟩) (ownFrom_below (arA _) hw6))
   (fun _ _ _ _ _ h _ _=>h)
   ⟨⟨GL,Zy⟩,kg⟩
   (fun y a' W=>∃Bx,W.heap[Bx]?=some (.cells y.x.toArray 121 (0,0))/\a'={ tmps:=#[agg #[slice ma mn mc,slice (some ⟨hb,ho,none⟩) hn hc],slice la ln lc,int i64 s,pointer (some ⟨w.heap.size,0,none⟩),undef,undef,pointer (some ⟨(w.heap.size+1),0,none⟩),int i64 0,pointer (some ⟨z,0,none⟩),undef,pointer (some ⟨Bx,0,none⟩),agg #[slice ma mn mc,slice (some ⟨hb,ho,none⟩) hn hc],.bool true,.bool false,.bool false,agg #[slice ma mn mc,slice (some ⟨hb,ho,none⟩) hn hc],slice la ln lc,.bool true,.bool false,.bool false,undef,int i64 s,.bool (decide ((s:Int)<0)),.bool (decide ((s:Int)<0)),int i64 s,slice la ln lc,int i64 ln,.bool false,.bool (decide ((s:Int)<0)),undef,pointer (some ⟨w.heap.size,0,none⟩),slice ma mn mc,slice a2 mn c2,pointer (some ⟨w.heap.size,1,none⟩),slice (some ⟨hb,ho,none⟩) hn hc,slice (some ⟨g3,0,none⟩) hn c3,agg #[slice a2 mn c2,slice (some ⟨g3,0,none⟩) hn c3],slice la ln lc,slice la ln lc,int i64 ln,int i64 s,int i64 q,slice (la.map fun x=>x.add (q*41)) (ln-q) (lc-q),.func (.func 72) #[] #[pointer (some ⟨W3.heap.size,0,none⟩)],int i64 (y.1.1:Int),agg y.x.toArray,undef,undef,undef],defers:=[] })
   (fun y a' _ X X' row h hg hr=>by obtain⟨Bx,h1,h2⟩:=h;exact⟨Bx,(fq hg hr _ _ _ _ h1).trans h1,h2⟩)
   ?assign ?body ?done ?stop
  case assign=>
   rintro l pre y W K ⟨⟨Z7,B7⟩,L7⟩ hK;have ER:Hid (y.x.length=41):=y.2.1.len;have ES:Hid (y.x.toArray.size=41):=by unfold Hid;simp[ER.out]
   have jy:Hid (y.x.toArray.all (·.oneCell')=true):=y.2.1.one;unfold Yv.enc;have G7:∀Y:Array Value,Gr W ((W.alloc (.cells Y 121)).setRow W.heap.size y.x.toArray):=fun Y=>ag br (arA _) _
   have Bh:Hid _:=G7;have HK:Hid _:=hK;have MN:Hid (Mz W w.heap.size z (slice a2 mn c2) g3 c3 ((pre.map Yv.u).foldl cZ (hs,m)).1 ((pre.map Yv.u).foldl cZ (hs,m)).2):=Z7;have uS:Hid (W.heap[w.heap.size+1]?=some (.cells #[slice none 0 0,slice none 0 0] 28 (0,0))):=B7;have Jf:Hid (Below w.heap.size w W):=L7;have hwl:=L7.size;clear hK Z7 B7 L7 G7
   gi_wp2_with (refine jC rfl 121 _ _ rfl W.heap.size y.x.toArray rfl rfl 121 _ (awk W _) (by rw[ES.out];exact iU) (by rw[ES.out];rfl) jy ?_)
   exact HK _ _ ((Th.aJ (n:=w.heap.size) (Bh _) hwl).keeps) ((Th.aJ (Bh _) hwl).kr) ⟨⟨MN.kept fun k o t f e=>(Bh _).block _ (gs e).1,Hr.ae (Bh _) uS⟩,Jf.trans (awH (Bh _) hwl)⟩ ⟨W.heap.size,J6 (awk W _),rfl⟩
  case body=>
   rintro l pre y a' W hl hr ⟨⟨Z7,B7⟩,L7⟩ ⟨Bx,hBx,rfl⟩ hlt;dsimp only;have hfl:=l6 (pre.map Yv.u) (hs,m) wY ZN (fun u hu=>by
    obtain⟨y',_,rfl⟩:=arY.1 hu;obtain⟨_,_,_,_,_,_,_,ok,_⟩:=y'.2.1;exact⟨y'.2.2,ok.f0⟩)
   have ER:Hid (y.x.length=41):=y.2.1.len;have RG:Hid (W.rangeAt Bx 0 y.x):=fun i v hi=>by rw[arH,cr hBx,arB];exact hi
   have HTB:Hid (Calls prog 39 #[pointer (some ⟨z,0,none⟩),agg y.x.toArray] W fun e w'=>e=returned (tuple #[])/\Mz w' w.heap.size z (slice a2 mn c2) g3 c3 (((pre++[y]).map Yv.u).foldl cZ (hs,m)).1 (((pre++[y]).map Yv.u).foldl cZ (hs,m)).2/\Th w.heap.size W w'):=by
    have:=rD y.2.1 L7 Z7 hfl.1 n4 hfl.2 m4 y.2.2;have e:((pre++[y]).map Yv.u).foldl cZ (hs,m)=cZ ((pre.map Yv.u).foldl cZ (hs,m)) y.u:=by rw[asl,asJ];rfl
    rw[e];exact this
   have uS:Hid (W.heap[w.heap.size+1]?=some (.cells #[slice none 0 0,slice none 0 0] 28 (0,0))):=B7;have Jf:Hid (Below w.heap.size w W):=L7;clear Z7 B7 L7 hfl hBx hr hlt
   gi_wp2_with (first
    |(refine gZ rfl 121 _ rfl Bx 0 rfl y.x _ ?r1 underlying121 rfl (by rw[ER.out];exact iU) ?_;(case r1=>exact RG))
    |(refine⟨trivial,?_⟩;gi_at_call 39;refine(CallsIn.inRound l (callsIn_wide.2 HTB)).mono ?_;rintro e w8 ⟨rfl,Z8,T8⟩))
   exact⟨T8.keeps,T8.kr,⟨Z8,T8.row uS an an⟩,Jf.trans T8.below⟩
  case done=>
   rintro D ys W hD hys ⟨⟨Z7,B7⟩,L7⟩ hK;rw[hys,oO]at Z7;have hfl:(bI (hs,m) (us.drop (ln-s))).1.length=hn/\(bI (hs,m) (us.drop (ln-s))).2.length=mn:=by
    rw[<-oO];refine l6 _ (hs,m) wY ZN (fun u hu=>?_);rw[<-hys]at hu;obtain⟨y',_,rfl⟩:=arY.1 hu;obtain⟨_,_,_,_,_,_,_,ok,_⟩:=y'.2.1;exact⟨y'.2.2,ok.f0⟩
   have MN:Hid (Mz W w.heap.size z (slice a2 mn c2) g3 c3 (bI (hs,m) (us.drop (ln-s))).1 (bI (hs,m) (us.drop (ln-s))).2):=Z7;have HFL:Hid _:=hfl;generalize hbk:(bI (hs,m) (us.drop (ln-s)))=bk at *
   have uS:Hid (W.heap[w.heap.size+1]?=some (.cells #[slice none 0 0,slice none 0 0] 28 (0,0))):=B7;have kz:W.heap[z]?=some (.cells #[slice a2 mn c2,slice (some ⟨g3,0,none⟩) hn c3] 28 (0,0)):=by have:=Z7.blk;rw[hfl.1]at this;exact this
   have HKz:Hid _:=kz;have Jf:Hid (Gr w W):=L7;have HKD:Hid (W.heap[D]?=some (.deferred (some []))):=hK;clear Z7 B7 L7 hK kz hfl hys
   go_wp2_with (first
    |(refine aw6 rfl 28 _ rfl z rfl 28 #[slice a2 mn c2,slice (some ⟨g3,0,none⟩) hn c3] (0,0) _ ?yy1 underlying28 rfl GM ?_;(case yy1=>exact HKz))
    |(refine awx rfl 28 _ _ rfl (w.heap.size+1) #[slice a2 mn c2,slice (some ⟨g3,0,none⟩) hn c3] rfl rfl 28 #[slice none 0 0,slice none 0 0] ?yy2 GM rfl al ?_;(case yy2=>exact uS)))
   have hDr:D≠w.heap.size+1:=by have:=(gs Zy).1;omega
   have HK9:Hid ((W.setRow (w.heap.size+1) #[slice a2 mn c2,slice (some ⟨g3,0,none⟩) hn c3]).heap[D]?=some (.deferred (some []))):=(uI hDr).trans HKD;have H9b:Hid ((W.setRow (w.heap.size+1) #[slice a2 mn c2,slice (some ⟨g3,0,none⟩) hn c3]).heap[w.heap.size+1]?=some (.cells #[slice a2 mn c2,slice (some ⟨g3,0,none⟩) hn c3] 28 (0,0))):=J6 uS;have H9:Hid (Hc.Own (W.setRow (w.heap.size+1) #[slice a2 mn c2,slice (some ⟨g3,0,none⟩) hn c3]) w.heap.size (slice a2 mn c2) bk.2/\bY (W.setRow (w.heap.size+1) #[slice a2 mn c2,slice (some ⟨g3,0,none⟩) hn c3]) g3 bk.1/\Zh (W.setRow (w.heap.size+1) #[slice a2 mn c2,slice (some ⟨g3,0,none⟩) hn c3]) g3 c3):=⟨MN.mem.to fun k o f e=>uI (aa e uS an),MN.row.to fun k o f e=>uI (aa e uS an),MN.hz.to fun k o f e=>uI (aa e uS an)⟩;have HG9:Hid (Gr w (W.setRow (w.heap.size+1) #[slice a2 mn c2,slice (some ⟨g3,0,none⟩) hn c3])):=ag Jf (asA _) _;have HBk:Hid (bk=bI (hs,m) (us.drop (ln-s))):=by unfold Hid;exact hbk.symm
   rw[hbk];generalize W.setRow (w.heap.size+1) #[slice a2 mn c2,slice (some ⟨g3,0,none⟩) hn c3]=W9 at *
   have kc:=fq (B:=0) (grownBy_putObj' W9 D (.deferred none)) (fun r e=>by cases e;exact⟨arQ _,_,HK9,rfl⟩);refine⟨aq,.inl ⟨D,_,rfl,run_takeDeferred HK9,?_⟩⟩;refine⟨_,Hr.aL results17 _ _ _ _ _ (0,0) _ _ rfl rfl ((kc _ _ _ _ H9b).trans H9b) underlying28 rfl GM,_,rfl,?_,aw2 HG9 (belowK_b (w:=w) (arA _) W9 D _ _ ab HK9 rfl rfl)⟩;obtain⟨l1,l2⟩:=HFL;have O10:=H9.1.to (w':=W9.putObj D (.deferred none)) fun k o f e=>kc k o _ f e
   have R10:=H9.2.1.to (w':=W9.putObj D (.deferred none)) fun k o f e=>kc k o _ f e
   have Z10:=H9.2.2.to (w':=W9.putObj D (.deferred none)) fun k o f e=>kc k o _ f e
   exact⟨_,_,_,_,rfl,O10,HBH,R10,Z10,l1,l2⟩
  case stop=>
   rintro D c pre W _ _ h _;exact h.elim
end Ud
namespace Vp
open Mm Hh Hc Mc Ud
variable{l:List UInt8}{hs:List Hv}
theorem JE (h:Hc.Own w base v l):w.ownsRow base 5 1 v l.length (bc l):=by
 refine⟨by rw[iE];omega,?_⟩;rcases h with⟨rfl,rfl⟩|⟨k,cap,rfl,⟨hb,hl⟩,rest,hr,hz,hm⟩
 ·exact .inl ⟨rfl,rfl⟩
 ·refine .inr ⟨k,cap,_,rfl,hb,hr,hl,hm,by rw[asb,hz];omega,?_⟩;rw[Nat.mul_one,aty,show l.length=(bc l).length from(iE l).symm,ath]
theorem JF (hl:l.length=n)(h:w.ownsRow base 5 1 v n (bc l)):Hc.Own w base v l:=PY hl h
theorem GN (r:bY w gh hs)(z:Zh w gh hc)(hb:base<=gh)(hl:hs.length=c):w.ownsRow base 43 37 (slice (some ⟨gh,0,none⟩) c hc) c (hC hs):=by obtain⟨rest,e⟩:=r.row;obtain⟨cur,e2,z1,z2⟩:=z;have hC:=p8 r.ok;rw[e]at e2;injection e2 with e2;injection e2 with e2;subst e2;rw[asb,ary,hC]at z1;refine⟨by rw[hC,hl],.inr ⟨gh,hc,_,rfl,hb,e,ab,z2,by rw[asb,ary,hC];omega,?_⟩⟩;rw[aty,<-hl,<-hC,ath]
structure Mx (w:World) (base:Nat) (M H:Value) (m:List UInt8) (hs:List Hv):Prop where
 mem:w.ownsRow base 5 1 M m.length (bc m)
 hrt:w.ownsRow base 43 37 H hs.length (hC hs)
 ok:∀h∈hs,h.Ok
theorem Mx.to (X:Mx w base M H m hs)(q:∀(k:Nat) (o) (t:Nat) (f),t=5\/t=43->w.heap[k]?=some (.cells o t f)->w'.heap[k]?=w.heap[k]?):Mx w' base M H m hs:=⟨aj X.mem fun k o f e=>q k o _ f (.inl rfl) e,aj X.hrt fun k o f e=>q k o _ f (.inr rfl) e,X.ok⟩
theorem Mx.of (X:Mx w base M H m hs)(G:Gr w w'):Mx w' base M H m hs:=X.to fun k o t f _ e=>G.block _ (gs e).1
theorem RY (w)(base):Mx w base (slice none 0 0) (slice none 0 0) [] []:=⟨awG _ _ _ _,awG _ _ _ _,fun h hm=>(by cases hm)⟩
theorem RZ {S}(h:ShO w v c mn S):∃M H oa oc,v=agg #[M,H,slice oa S.out.length oc,int i64 S.steps]/\Mx w Hc.mb M H S.m S.hs/\Wm w oa S.out.length S.out:=by obtain⟨ma,mc,gh,hc,oa,oc,rfl,h1,h2,h3,h4,h5,_,h6,h7⟩:=h;refine⟨_,_,oa,oc,rfl,⟨JE h1,?_,h3.ok⟩,h5⟩;rw[h7];exact GN h3 h4 h2 h7
theorem XT (h:MvO w b v c mn hs m)(hb:base<=b):∃M H,v=agg #[M,H]/\Mx w base M H m hs:=by obtain⟨ma,mc,gh,hc,rfl,h1,h2,h3,h4,h5,h6⟩:=h;refine⟨_,_,rfl,⟨JE (h1.base (w':=w) hb),?_,h3.ok⟩⟩;rw[h5];exact GN h3 h4 (arF hb h2) h5
theorem Mx.read (X:Mx w base M H m hs):∃ma mc ha hc,M=slice ma m.length mc/\H=slice ha hs.length hc/\Mem w ma m.length m/\(ma=none->mc=0)/\Hs w ha hs.length hs:=by
 obtain⟨ma,mc,e,M1⟩:=(JF rfl X.mem).mem;have hc0:ma=none->mc=0:=by
  rintro rfl;rcases JF rfl X.mem with⟨h,_⟩|⟨k,cap,h,_⟩
  ·rw[e]at h;injection h
  ·rw[e]at h;cases h
 rcases X.hrt.2 with⟨h0,hn⟩|⟨g,cap,cur,hv,hb,hg,r⟩
 ·exact⟨ma,mc,none,0,e,by rw[h0,hn],M1,hc0,⟨rfl,X.ok,fun h=>absurd h ab⟩⟩
 ·have hh:=X.hrt;rw[hv]at hh;exact⟨ma,mc,some ⟨g,0,none⟩,cap,e,hv,M1,hc0,(bY.own X.ok hh).hs rfl⟩
theorem FP (hs)(h):hC (hs++[h])=hC hs++hL h:=by simp[hC]
theorem Mx.akh (X:Mx w base M H m hs){h}(o:h.Ok)(q:w.grownBy w' H.ownBlock)(O:w'.ownsRow base 43 37 H' (hs.length+1) (hC hs++hL h)):Mx w' base M H' m (hs++[h]):=by
 refine⟨aj X.mem fun k o f e=>eY X.hrt q an e,?_,fun h' hm=>?_⟩
 ·rw[ary,ar4,FP];exact O
 ·rcases ar7.1 hm with hm|hm
  ·exact X.ok h' hm
  ·rw[arL.1 hm];exact o
theorem Mx.set {M}{m}{g c cap k j}{h h'}{u}(X:Mx w base M (slice (some ⟨g,0,none⟩) c cap) m hs)(hk:hs[k]?=some h)(hj:j<37)(e:(hL h).set j u=hL h')(o:h'.Ok):base<=g/\Mx (w.setCell ⟨g,k*37+j,none⟩ u) base M (slice (some ⟨g,0,none⟩) c cap) m (hs.set k h'):=by
 have hl:c=hs.length:=by
  rcases X.hrt.2 with⟨h0,_⟩|⟨_,_,_,hv,_⟩
  ·cases h0
  ·injection hv
 have hb:=(X.hrt.lt g rfl).1;subst hl;have R:=bY.own X.ok X.hrt;have Z:=P5 X.hrt;obtain⟨rest,er⟩:=R.row;have R2:=R.set hk hj e o;refine⟨hb,aj X.mem fun i ob f ei=>hso (by exact aa ei er an),?_,R2.ok⟩;rw[asn];exact GN R2 (Z.setCell _ _) hb (asn ..)
end Vp
namespace Vp
open Mm Hh Hc Mc Ud
section
variable{size bytes:Nat}{i:TypeInfo}{z:Value}{t:TypeId}
theorem y8 (ty)(ht:P.underlying t=some (.slice e))(hi:P.info? e=some i)(hz:i.zero=some z)(hsize:i.size=size)(hby:i.bytes=bytes)(hzs:z.cells.size=size)(hsz:0<size)(v)(xs)(hown:w.ownsRow base e size v n xs)(a)(m c)(news)(hl:news.length=m*size)(hnews:∀j u,news[j]?=some u->w.cell? (a.add j)=some u)(h1:∀u∈news,u.oneCell'=true)(h63:n+m<=maxLen)(hbytes:(n+m)*bytes<=140737488355328)(hbase:base<=w.heap.size):∃v' w',(Builtin.append_ #[t,t] ty #[v,.slice (some a) m c]).run P w=.ok v' w'/\w'.ownsRow base e size v' (n+m) (xs++news)/\w.grownBy w' v.ownBlock/\∀k,v'.ownBlock=some k->v.ownBlock=some k\/w.heap.size<=k:=by
 obtain⟨v',w',hr,h2,h3,_⟩:=axp (P:=P) w base t ty e i z size bytes ht hi hz hsize hby hzs hsz v n xs hown a m c news hl hnews h1 h63 hbytes hbase;refine⟨v',w',hr,h2,h3,fun k hk=>?_⟩;rcases hown.2 with⟨rfl,rfl⟩|⟨g,cap,cur,rfl,hbg,hg,hnc,hcm,hcs,htake⟩
 ·have hx:=asa (by simpa using hown.1);subst hx;obtain⟨v2,w2,hr2,k2,_⟩:=axp (P:=P) w w.heap.size t ty e i z size bytes ht hi hz hsize hby hzs hsz (.slice none 0 0) 0 [] (awG _ _ _ _) a m c news hl hnews h1 h63 hbytes (arA _);rw[hr]at hr2;injection hr2 with e1 e2;subst e1;exact .inr (k2.lt k hk).1
 ·by_cases hroom:n+m<=cap
  ·obtain⟨w2,hr2,k2,_⟩:=run_append_fits (P:=P) w base t ty e i size ht hi hsize g n cap xs hown a m c news hl hnews h1 hroom;rw[hr]at hr2;injection hr2 with e1 e2;subst e1;exact .inl hk
  ·subst hsize;subst hby;have holds:=hown.cells (g:=g) rfl;have hr2:=run_append_grow (P:=P) w t ty e i z ht hi hz ⟨g,0,none⟩ n cap xs hown.1 holds a m c news hl hnews ab (by unfold maxLen at h63;omega) (growslice_fits ab hbytes);rw[hr]at hr2;injection hr2 with e1 e2;subst e1;simp only[Value.ownBlock,awz]at hk;exact .inr ab
theorem fK {Q}(hgd:o.guard=none)(s x)(ho:o.op=.call { callee:=.builtin .append,args:=#[s,x],argTypes:=#[t,t] })(ht:P.underlying t=some (.slice e))(hi:P.info? e=some i)(hz:i.zero=some z)(hsize:i.size=size)(hby:i.bytes=bytes)(hzs:z.cells.size=size)(hsz:0<size)(v)(xs)(hs:a.eval s=v)(hown:w.ownsRow base e size v n xs)(ad)(m c)(news)(hx:a.eval x=.slice (some ad) m c)(hl:news.length=m*size)(hnews:∀j u,news[j]?=some u->w.cell? (ad.add j)=some u)(h1:∀u∈news,u.oneCell'=true)(h63:n+m<=maxLen)(hbytes:(n+m)*bytes<=140737488355328)(hbase:base<=w.heap.size)(h:∀v' w',w'.ownsRow base e size v' (n+m) (xs++news)->w.grownBy w' v.ownBlock->(∀k,v'.ownBlock=some k->v.ownBlock=some k\/w.heap.size<=k)->wpList P ops Q rest (a.put o.dst v') w'):wpList P ops Q (o::rest) a w:=by
 refine axo hgd fun K hK=>?_
 obtain⟨v',w',hr,h2,h3,h4⟩:=y8 (P:=P) o.type ht hi hz hsize hby hzs hsz v xs hown ad m c news hl hnews h1 h63 hbytes hbase;unfold Oper.wp;simp[execOp,ho,resolve,invoke,builtin,hs,hx,hr,Result.andThen];exact hK _ _ (h v' w' h2 h3 h4)
end
variable{w w':World}{ty g:Nat}
abbrev HsP (w0:World) (g:Nat):Prop:=∀i v,w0.cell? ⟨g,i,none⟩=some v->∀z,v≠int .u8 z/\v≠int .u32 z
abbrev HkP (w0 w:World) (g:Nat):Prop:=∀k,k<w0.heap.size->k≠g->w.heap[k]?=w0.heap[k]?
section
variable{w0:World}
theorem Bl (hs:HsP w0 g)(hk:HkP w0 w g){o}{k}(hkk:k=.u8\/k=.u32)(h:w0.cell? ⟨b,o,none⟩=some (int k z)):b≠g:=by
 rintro rfl;rcases hkk with rfl|rfl
 ·exact(hs _ _ h z).1 rfl
 ·exact(hs _ _ h z).2 rfl
theorem wS (hs:HsP w0 g)(hk:HkP w0 w g){a}{k}(hkk:k=.u8\/k=.u32)(h:w0.cell? a=some (int k z)):w.cell? a=some (int k z):=by
 have hsp:=axv h;obtain⟨b,o,s⟩:=a;obtain rfl:s=none:=by simpa using hsp
 exact(awv (hk b (awo w0 _ h) (Bl hs hk hkk h))).trans h
theorem XU (hs:HsP w0 g)(hk:HkP w0 w g){l}(M:Mem w0 ao n l):Mem w ao n l:=⟨M.len,M.nil,fun ad e t ht=>wS hs hk (.inl rfl) (M.cell ad e t ht)⟩
theorem ac4 (hs:HsP w0 g)(hk:HkP w0 w g)(hz:w0.heap.size<=w.heap.size)(L:Ls w0 ao n ls):Ls w ao n ls:=
 ⟨L.len,fun hn=>by
  obtain⟨b,o,e,hb,hc⟩:=L.spot hn;exact⟨b,o,e,arD hb hz,fun i p hp=>⟨(awv (hk b hb (Bl hs hk (.inr rfl) (hc i p hp).2))).trans (hc i p hp).1,wS hs hk (.inr rfl) (hc i p hp).2⟩⟩⟩
theorem ac5 (hs:HsP w0 g)(hk:HkP w0 w g){u}{x}(hz:w0.heap.size<=w.heap.size)(h:Uc w0 u x):Uc w u x:=by obtain⟨ba,bn,bc,la,ln,lc,e,o,k1,k2,M,L,b1,b2⟩:=h;exact⟨ba,bn,bc,la,ln,lc,e,o,k1,k2,XU hs hk M,ac4 hs hk hz L,b1,b2⟩
theorem ac6 (hs:HsP w0 g)(hk:HkP w0 w g){us}(hz:w0.heap.size<=w.heap.size)(U:Us w0 ao n us):Us w ao n us:=
 ⟨U.len,fun hn=>by
  obtain⟨b,o,e,hb,hc⟩:=U.spot hn;refine⟨b,o,e,arD hb hz,fun j u hj=>?_⟩;obtain⟨x,h1,h2⟩:=hc j u hj;refine⟨x,ac5 hs hk hz h1,fun i v hi=>?_⟩;have hb2:b≠g:=by
   obtain⟨ba,bn,bc,la,ln,lc,ex,ou,_⟩:=h1;have h0:=h2 1 (int .u32 (Hh.rg u.was 0)) (by rw[ex];exact(sZ ou.was (j:=0) ab).trans (mg ou.was ab));exact Bl hs hk (.inr rfl) h0
  exact(awv (hk b hb hb2)).trans (h2 i v hi)⟩
end
theorem ac7 {α:Type}{l:List α}(h:0<l.length):∃x,l[0]?=some x:=⟨l[0],arq h⟩
structure Un (w:World) (ao:Option Addr) (n:Nat) (us:List Uv):Prop where
 us:Us w ao n us
 off:∀b o,ao=some ⟨b,o,none⟩->∀j,j<n->b≠Hc.mb/\(∀ba bn bc,w.cell? ⟨b,o+j*41+39,none⟩=some (slice ba bn bc)->0<bn->∀ad,ba=some ad->ad.block≠Hc.mb)/\(∀la ln lc,w.cell? ⟨b,o+j*41+40,none⟩=some (slice la ln lc)->0<ln->∀ad,la=some ad->ad.block≠Hc.mb)
theorem Un.keep {w0}{us}(U:Un w0 ao n us)(Q:Us w ao n us)(hk:∀b o,ao=some ⟨b,o,none⟩->0<n->w.heap[b]?=w0.heap[b]?):Un w ao n us:=
 ⟨Q,fun b o e j hj=>by
  obtain⟨h1,h2,h3⟩:=U.off b o e j hj;have he:=hk b o e ab;exact⟨h1,fun ba bn bc hc=>h2 ba bn bc ((awv he).symm.trans hc),fun la ln lc hc=>h3 la ln lc ((awv he).symm.trans hc)⟩⟩
theorem Un.of {ao}{n}{us}(U:Un w ao n us)(G:Gr w w'):Un w' ao n us:=
 U.keep (U.us.of G) fun b o e hn=>by
  obtain⟨b',o',e',hb,_⟩:=U.us.spot hn;rw[e]at e';injection e' with e';injection e' with e1 e2;subst e1 e2;exact G.block _ hb
def NbW (w:World) (b:Nat):Prop:=∀i v,w.cell? ⟨b,i,none⟩=some v->∀z,v≠int .u8 z/\v≠int .u32 z
def Kw (w0 w:World) (k:Nat):Prop:=w.heap[k]?=w0.heap[k]?\/NbW w0 k\/k=Hc.mb
section
variable{w0:World}
theorem y9 (hk:∀k,k<w0.heap.size->Kw w0 w k){o}(h:w0.cell? ⟨b,o,none⟩=some (int .u32 z))(hb:b≠Hc.mb):w.heap[b]?=w0.heap[b]?:=by
 rcases hk b (awo w0 _ h)with e|e|e
 ·exact e
 ·exact absurd rfl (e _ _ h z).2
 ·exact absurd e hb
theorem keep_byte (hk:∀k,k<w0.heap.size->Kw w0 w k){a}(h:w0.cell? a=some (int .u8 z))(hb:a.block≠Hc.mb):w.heap[a.block]?=w0.heap[a.block]?:=by
 have hsp:=axv h;obtain⟨b,o,s⟩:=a;obtain rfl:s=none:=by simpa using hsp
 rcases hk b (awo w0 _ h)with e|e|e
 ·exact e
 ·exact absurd rfl (e _ _ h z).1
 ·exact absurd e hb
theorem Bn (hk:∀k,k<w0.heap.size->Kw w0 w k){ao}{n}{us}(Y:Un w0 ao n us){b o}(e:ao=some ⟨b,o,none⟩)(hn:0<n):w.heap[b]?=w0.heap[b]?:=by have hbm:=(Y.off b o e 0 hn).1;have U:=Y.us;obtain⟨b',o',e',hb,hc⟩:=U.spot hn;rw[e]at e';injection e' with e';injection e' with e1 e2;subst e1 e2;obtain⟨u0,hu0⟩:=ac7 (l:=us) (by have:=U.len;omega);obtain⟨x,⟨ba,bn,bc,la,ln,lc,ex,ou,_⟩,h2⟩:=hc 0 u0 hu0;exact y9 hk (h2 1 (int .u32 (Hh.rg u0.was 0)) (by rw[ex];exact(sZ ou.was (j:=0) ab).trans (mg ou.was ab))) hbm
theorem Un.kw (hk:∀k,k<w0.heap.size->Kw w0 w k){ao}{n}{us}(hz:w0.heap.size<=w.heap.size)(U:Un w0 ao n us):Us w ao n us:=
 ⟨U.us.len,fun hn=>by
  obtain⟨b,o,e,hb,hc⟩:=U.us.spot hn;have eb:=Bn hk U e hn;refine⟨b,o,e,arD hb hz,fun j u hj=>?_⟩;have hjn:j<n:=by have:=(arw.1 hj).1;have:=U.us.len;omega
  obtain⟨x,⟨ba,bn,bc,la,ln,lc,ex,ou,k1,k2,M,L,b1,b2⟩,h2⟩:=hc j u hj;have Za:=h2 39 (slice ba bn bc) (by rw[ex];have:=fo (u:=u) (b:=slice ba bn bc) (l:=slice la ln lc) ou.was 1;simpa using this);have Oq:=h2 40 (slice la ln lc) (by rw[ex];have:=fo (u:=u) (b:=slice ba bn bc) (l:=slice la ln lc) ou.was 2;simpa using this);have hoff:=(U.off b o e j hjn).2.1 ba bn bc Za;have aki:=(U.off b o e j hjn).2.2 la ln lc Oq;refine⟨x,⟨ba,bn,bc,la,ln,lc,ex,ou,k1,k2,⟨M.len,M.nil,fun ad e2 t ht=>?_⟩,⟨L.len,fun hl=>?_⟩,b1,b2⟩,fun i v hi=>(awv eb).trans (h2 i v hi)⟩
  ·have h:=M.cell ad e2 t ht;exact(awv (keep_byte hk h (by rw[show(ad.add t).block=ad.block by unfold Addr.add;split<;>rfl];exact hoff ab ad e2))).trans h
  ·obtain⟨lb,lo,e3,hlb,hlc⟩:=L.spot hl;obtain⟨q0,hq0⟩:=ac7 (l:=u.lost) (by have:=L.len;omega);have hl0:=hlc 0 q0 hq0;have el:=y9 hk hl0.2 (aki hl _ e3);exact⟨lb,lo,e3,arD hlb hz,fun i p hp=>⟨(awv el).trans (hlc i p hp).1,(awv el).trans (hlc i p hp).2⟩⟩⟩
end
def BX (g N:Nat) (w:World) (U:Value) (us:List Uv):Prop:=∃w0 ua uc,U=slice ua us.length uc/\us.length<=uc/\w0.heap.size=N/\N<=w.heap.size/\Un w0 ua us.length us/\NbW w0 g/\∀k,k<N->k≠g->Kw w0 w k
theorem BX.un {N}{U}{us}(h:BX g N w U us):∃ua uc,U=slice ua us.length uc/\us.length<=uc/\Un w ua us.length us:=by
 obtain⟨w0,ua,uc,e,h1,rfl,h2,h3,h4,h5⟩:=h;have hk:∀k,k<w0.heap.size->Kw w0 w k:=fun k hk=>by
  by_cases hg:k=g
  ·subst hg;exact .inr (.inl h4)
  ·exact h5 k hk hg
 exact⟨ua,uc,e,h1,h3.keep (h3.kw hk h2) fun b o e2 hn=>Bn hk h3 e2 hn⟩
theorem BX.us {N}{U}{us}(h:BX g N w U us):∃ua uc,U=slice ua us.length uc/\us.length<=uc/\Us w ua us.length us:=by obtain⟨ua,uc,e,h1,h2⟩:=h.un;exact⟨ua,uc,e,h1,h2.us⟩
theorem BX.step {us}(h:BX g N w U us)(hz:w.heap.size<=w'.heap.size)(hk:∀k,k<N->k≠g->w'.heap[k]?=w.heap[k]?):BX g N w' U us:=by
 obtain⟨w0,ua,uc,e,h1,h0,h2,h3,h4,h5⟩:=h;refine⟨w0,ua,uc,e,h1,h0,arF h2 hz,h3,h4,fun k hk' hg=>?_⟩;rcases h5 k hk' hg with q|q
 ·exact .inl ((hk k hk' hg).trans q)
 ·exact .inr q
theorem BX.wr {N}{U}{us}(h:BX g N w U us)(hz:w.heap.size<=w'.heap.size)(hk:∀k,k<N->k≠g->Kw w w' k):BX g N w' U us:=by
 obtain⟨w0,ua,uc,e,h1,h0,h2,h3,h4,h5⟩:=h;refine⟨w0,ua,uc,e,h1,h0,arF h2 hz,h3,h4,fun k hk' hg=>?_⟩;rcases h5 k hk' hg with q|q
 ·rcases hk k hk' hg with r|r|r
  ·exact .inl (r.trans q)
  ·exact .inr (.inl fun i v hv=>r i v ((awv q).trans hv))
  ·exact .inr (.inr r)
 ·exact .inr q
def Dm (g:Nat) (M H P:Value) (k:Nat):Prop:=k=g\/M.ownBlock=some k\/H.ownBlock=some k\/P.ownBlock=some k
structure Fx (D D':Nat→Prop) (w w':World):Prop where
 os:w'.os=w.os
 tape:w'.tape=w.tape
 output:w'.output=w.output
 size:w.heap.size<=w'.heap.size
 keep:∀k,k<w.heap.size->¬D k->w'.heap[k]?=w.heap[k]?
 dom:∀k,D' k->D k\/w.heap.size<=k
theorem Fx.refl (D)(w):Fx D D w w:=⟨rfl,rfl,rfl,arA _,fun _ _ _=>rfl,fun _ h=>.inl h⟩
theorem Fx.trans {D D1 D2}{a b c}(h:Fx D D1 a b)(q:Fx D1 D2 b c):Fx D D2 a c:=
 ⟨q.os.trans h.os,q.tape.trans h.tape,q.output.trans h.output,arF h.size q.size,fun k hk hd=>(q.keep k (arD hk h.size) (fun h1=>by
  rcases h.dom k h1 with h2|h2
  ·exact hd h2
  ·omega)).trans (h.keep k hk hd),fun k hk=>by
  rcases q.dom k hk with h1|h1
  ·exact h.dom k h1
  ·exact .inr (arF h.size h1)⟩
theorem Fx.aJ {D}(G:Gr w w'):Fx D D w w':=⟨G.os,G.tape,G.output,G.size,fun k hk _=>G.block k hk,fun _ h=>.inl h⟩
theorem Fx.gr {D D'}{a}(h:Fx D D' a w)(G:Gr w w'):Fx D D' a w':=h.trans (.aJ G)
theorem Fx.grown (q:w.grownBy w' r)(h:∀k,r=some k->D k)(hd:∀k,D' k->D k\/w.heap.size<=k):Fx D D' w w':=⟨q.os,q.tape,q.output,q.size,fun k hk hn=>q.block k hk (fun e=>hn (h k e.symm)),hd⟩
theorem Fx.set {a}(h:D a.block):Fx D D w (w.setCell a v):=⟨rfl,rfl,rfl,by simp[World.setCell],fun k hk hn=>hso (fun e=>hn (e ▸ h)),fun _ h=>.inl h⟩
theorem Fx.below (h:Fx D D' w w')(hb:∀k,D k->B<=k)(hB:B<=w.heap.size):Below B w w':=⟨h.os,h.tape,h.output,h.size,fun k hk=>h.keep k (arD hk hB) (fun hd=>by have:=hb k hd;omega)⟩
def pC (ps:List (Int×Int)):List Value:=ps.flatMap fun p=>[int i64 p.1,int i64 p.2]
theorem XV (ps)(p):pC (ps++[p])=pC ps++[int i64 p.1,int i64 p.2]:=by simp[pC]
theorem R6:∀(ps:List (Int×Int)) (i:Nat) (p:Int×Int),ps[i]?=some p→(pC ps)[i*2]?=some (int i64 p.1)∧(pC ps)[i*2+1]?=some (int i64 p.2)
 |q::r,0,p,h=>by
  simp only[arC,awz]at h;subst h;exact⟨rfl,rfl⟩
 |q::r,i+1,p,h=>by
  have:=R6 r i p (by simpa using h);have e:pC (q::r)=int i64 q.1::int i64 q.2::pC r:=rfl;rw[e,show(i+1)*2=i*2+1+1 by omega];simpa using this
theorem ac8 (h:w.ownsRow N 45 2 v ps.length (pC ps)):∃pa pc,v=slice pa ps.length pc/\Ps w pa ps.length ps:=by
 rcases h.2 with⟨h0,hn⟩|⟨k,cap,cur,hv,_,hg,_,_,_,ht⟩
 ·exact⟨none,0,by rw[h0,hn],rfl,fun h=>absurd h ab⟩
 ·refine⟨_,cap,hv,rfl,fun _=>⟨k,0,rfl,(gs hg).1,fun i p hi=>?_⟩⟩;obtain⟨e1,e2⟩:=R6 ps i p hi;rw[<-ht,ar9]at e1 e2;split at e1
  ·split at e2
   ·rw[asV]at e1 e2;rw[arH];exact⟨(cr hg).trans e1,(cr hg).trans e2⟩
   ·cases e2
  ·cases e1
structure Pr (ty:Nat) (B:Nat) (w:World) (g:Nat) (M H P U:Value) (p:Pl):Prop where
 qx:ty≠5/\ty≠43/\ty≠45
 bg:B<=g
 blk:w.heap[g]?=some (.cells #[M,H,P,U,.bool p.fr] ty (0,0))
 mx:Mx w B M H p.m p.hs
 ok:mM p
 row:∃N,B<=N/\N<=w.heap.size/\w.ownsRow N 45 2 P p.ps.length (pC p.ps)/\(p.fr=true->BX g N w U p.us)
 un:∃ua n uc,U=slice ua n uc
variable{B:Nat}{M H P U:Value}{p:Pl}
theorem Pr.le (h:Pr ty B w g M H P U p):B<=w.heap.size:=arF h.bg (as6 (gs h.blk).1)
theorem Pr.dom (h:Pr ty B w g M H P U p):∀k,Dm g M H P k->B<=k/\k<w.heap.size:=by
 obtain⟨N,h1,h2,h3,_⟩:=h.row;rintro k (rfl|e|e|e)
 ·exact⟨h.bg,(gs h.blk).1⟩
 ·exact h.mx.mem.lt k e
 ·exact h.mx.hrt.lt k e
 ·have:=h3.lt k e;exact⟨arF h1 this.1,this.2⟩
theorem Pr.gr (h:Pr ty B w g M H P U p)(G:Gr w w'):Pr ty B w' g M H P U p:=by obtain⟨N,h1,h2,h3,h4⟩:=h.row;exact⟨h.qx,h.bg,(G.block g (gs h.blk).1).trans h.blk,h.mx.of G,h.ok,⟨N,h1,arF h2 G.size,aD h3 G,fun hf=>(h4 hf).step G.size fun k hk _=>G.block k (arD hk h2)⟩,h.un⟩
theorem Pr.down (h:Pr ty B w g M H P U p):Pr ty B (w.setCell ⟨g,4,none⟩ (.bool false)) g M H P U { p with fr:=false }/\Fx (Dm g M H P) (Dm g M H P) w (w.setCell ⟨g,4,none⟩ (.bool false)):=by
 obtain⟨N,h1,h2,h3,_⟩:=h.row;have hn:∀(t:Nat),t≠ty->∀(k:Nat) (o:Array Value) (f:Nat×Nat),w.heap[k]?=some (.cells o t f)->(w.setCell ⟨g,4,none⟩ (.bool false)).heap[k]?=w.heap[k]?:=fun t ht k o f e=>hso (by exact aa e h.blk ht)
 exact⟨⟨h.qx,h.bg,by rw[hss h.blk];simp,h.mx.to fun k o t f ht e=>hn t (by rcases ht with rfl|rfl;exact h.qx.1.symm;exact h.qx.2.1.symm) k o f e,h.ok.old,⟨N,h1,by simpa using h2,aj h3 fun k o f e=>hn _ h.qx.2.2.symm k o f e,fun hf=>by cases hf⟩,h.un⟩,Fx.set (.inl rfl)⟩
end Vp
namespace Vp
open Mm Hh Hc Mc Ud
variable{w2:World}{ty:Nat}{P M' P':Value}{p:Pl}
variable{hs':List Hv}
def bO (ty B:Nat) (w:World) (g:Nat) (M H P:Value) (r:Pl×List Nat) (e:Ending) (w':World):Prop:=e=returned (As.str r.2)/\∃M' H' P' U',Pr ty B w' g M' H' P' U' r.1/\Fx (Dm g M H P) (Dm g M' H' P') w w'
theorem ac9 (a b):bc (a++b)=bc a++bc b:=by simp[bc]
theorem Pr.open (X:Pr ty B w g M H P U p):∃ma mc ha hc pa pc ua un uc,M=slice ma p.m.length mc/\H=slice ha p.hs.length hc/\P=slice pa p.ps.length pc/\U=slice ua un uc/\Mem w ma p.m.length p.m/\(ma=none->mc=0)/\Hs w ha p.hs.length p.hs/\Ps w pa p.ps.length p.ps:=by obtain⟨ma,mc,ha,hc,e1,e2,h1,h2,h3⟩:=X.mx.read;obtain⟨N,_,_,h4,_⟩:=X.row;obtain⟨pa,pc,e3,h5⟩:=ac8 h4;obtain⟨ua,un,uc,e4⟩:=X.un;exact⟨ma,mc,ha,hc,pa,pc,ua,un,uc,e1,e2,e3,e4,h1,h2,h3,h5⟩
theorem dE {v}{i}{o}(hb:w.heap[g]?=some (.cells o ty (0,0)))(ht:t≠ty)(e:w.heap[k]?=some (.cells q t f)):(w.setCell ⟨g,i,none⟩ v).heap[k]?=w.heap[k]?:=hso (by exact aa e hb ht)
theorem Pr.agF {l}{n}(X:Pr ty B w g M H P U p)(hf:p.fr=false)(hn:l.length=n)(h4:p.m.length+n<=4096)(q:w.grownBy w2 M.ownBlock)(O:w2.ownsRow B 5 1 M' (p.m.length+n) (bc p.m++bc l))(hat:∀k,M'.ownBlock=some k->M.ownBlock=some k\/w.heap.size<=k):w2.heap[g]?=some (.cells #[M,H,P,U,.bool p.fr] ty (0,0))/\Pr ty B (w2.setCell ⟨g,0,none⟩ M') g M' H P U { p with m:=p.m++l }/\Fx (Dm g M H P) (Dm g M' H P) w (w2.setCell ⟨g,0,none⟩ M'):=by
 obtain⟨N,n1,n2,n3,_⟩:=X.row;have kp:∀{t:Nat},t≠5->∀{k:Nat} {o:Array Value} {f:Nat×Nat},w.heap[k]?=some (.cells o t f)->w2.heap[k]?=w.heap[k]?:=by intro t ht k o f e;exact eY X.mx.mem q ht e
 have hb:=(kp X.qx.1 X.blk).trans X.blk;refine⟨hb,⟨X.qx,X.bg,by rw[hss hb];simp,⟨?_,?_,X.mx.ok⟩,?_,⟨N,n1,by have:=q.size;simp;omega,?_,fun h=>by rw[show p.fr=true from h]at hf;cases hf⟩,X.un⟩,?_⟩
 ·rw[ary,hn,ac9];exact aj O fun k o f e=>dE hb X.qx.1.symm e
 ·exact aj (aj X.mx.hrt fun k o f e=>kp an e) fun k o f e=>dE hb X.qx.2.1.symm e
 ·exact⟨by show(p.m++l).length<=4096;rw[ary];omega,X.ok.h4,X.ok.hok,X.ok.p3,X.ok.pk,fun h=>(by rw[show p.fr=true from h]at hf;cases hf),fun h=>by rw[show p.fr=true from h]at hf;cases hf⟩
 ·exact aj (aj n3 fun k o f e=>kp an e) fun k o f e=>dE hb X.qx.2.2.symm e
 ·refine(Fx.grown q (fun k e=>.inr (.inl e)) (D':=Dm g M' H P) ?_).trans (Fx.set (.inl rfl));rintro k (h|h|h|h)
  ·exact .inl (.inl h)
  ·rcases hat k h with h|h
   ·exact .inl (.inr (.inl h))
   ·exact .inr h
  ·exact .inl (.inr (.inr (.inl h)))
  ·exact .inl (.inr (.inr (.inr h)))
theorem Pr.agG {h}(X:Pr ty B w g M H P U p)(hf:p.fr=false)(o:h.Ok/\may h=true)(h4:p.hs.length+1<=4)(q:w.grownBy w2 H.ownBlock)(O:w2.ownsRow B 43 37 H' (p.hs.length+1) (hC p.hs++hL h))(hat:∀k,H'.ownBlock=some k->H.ownBlock=some k\/w.heap.size<=k):w2.heap[g]?=some (.cells #[M,H,P,U,.bool p.fr] ty (0,0))/\Pr ty B (w2.setCell ⟨g,1,none⟩ H') g M H' P U { p with hs:=p.hs++[h] }/\Fx (Dm g M H P) (Dm g M H' P) w (w2.setCell ⟨g,1,none⟩ H'):=by
 obtain⟨N,n1,n2,n3,_⟩:=X.row;have kp:∀{t:Nat},t≠43->∀{k:Nat} {o:Array Value} {f:Nat×Nat},w.heap[k]?=some (.cells o t f)->w2.heap[k]?=w.heap[k]?:=by intro t ht k o f e;exact eY X.mx.hrt q ht e
 have hb:=(kp X.qx.2.1 X.blk).trans X.blk;have Y:=X.mx.akh o.1 q O;refine⟨hb,⟨X.qx,X.bg,by rw[hss hb];simp,⟨?_,?_,Y.ok⟩,?_,⟨N,n1,by have:=q.size;simp;omega,?_,fun h=>by rw[show p.fr=true from h]at hf;cases hf⟩,X.un⟩,?_⟩
 ·exact aj Y.mem fun k o f e=>dE hb X.qx.1.symm e
 ·exact aj Y.hrt fun k o f e=>dE hb X.qx.2.1.symm e
 ·refine⟨X.ok.m4,by show(p.hs++[h]).length<=4;rw[ary,ar4];omega,fun k hk=>?_,X.ok.p3,X.ok.pk,fun h=>(by rw[show p.fr=true from h]at hf;cases hf),fun h=>by rw[show p.fr=true from h]at hf;cases hf⟩;rcases ar7.1 hk with hk|hk
  ·exact X.ok.hok k hk
  ·rw[arL.1 hk];exact o
 ·exact aj (aj n3 fun k o f e=>kp an e) fun k o f e=>dE hb X.qx.2.2.symm e
 ·refine(Fx.grown q (fun k e=>.inr (.inr (.inl e))) (D':=Dm g M H' P) ?_).trans (Fx.set (.inl rfl));rintro k (h|h|h|h)
  ·exact .inl (.inl h)
  ·exact .inl (.inr (.inl h))
  ·rcases hat k h with h|h
   ·exact .inl (.inr (.inr (.inl h)))
   ·exact .inr h
  ·exact .inl (.inr (.inr (.inr h)))
theorem Pr.pkA {s}(X:Pr ty B w g M H P U p)(n1:B<=N)(n2:N<=w.heap.size)(n3:w.ownsRow N 45 2 P p.ps.length (pC p.ps))(n4:p.fr=true->BX g N w U p.us)(hs:0<=s.1/\s.1<4294967296/\0<=s.2/\s.2<4294967296)(h4:p.ps.length+1<=300)(q:w.grownBy w2 P.ownBlock)(O:w2.ownsRow N 45 2 P' (p.ps.length+1) (pC p.ps++[int i64 s.1,int i64 s.2]))(hat:∀k,P'.ownBlock=some k->P.ownBlock=some k\/w.heap.size<=k):w2.heap[g]?=some (.cells #[M,H,P,U,.bool p.fr] ty (0,0))/\Pr ty B (w2.setCell ⟨g,2,none⟩ P') g M H P' U { p with ps:=p.ps++[s] }/\Fx (Dm g M H P) (Dm g M H P') w (w2.setCell ⟨g,2,none⟩ P'):=by
 have kp:∀{t:Nat},t≠45->∀{k:Nat} {o:Array Value} {f:Nat×Nat},w.heap[k]?=some (.cells o t f)->w2.heap[k]?=w.heap[k]?:=by intro t ht k o f e;exact eY n3 q ht e
 have hb:=(kp X.qx.2.2 X.blk).trans X.blk;have hz:=q.size;refine⟨hb,⟨X.qx,X.bg,by rw[hss hb];simp,X.mx.to fun k o t f ht e=>(dE hb (by rcases ht with rfl|rfl;exact X.qx.1.symm;exact X.qx.2.1.symm) ((kp (by rcases ht with rfl|rfl<;>decide) e).trans e)).trans (kp (by rcases ht with rfl|rfl<;>decide) e),?_,⟨N,n1,aE,?_,fun h=>(n4 h).step aE fun k hk hg=>(hso (by exact hg)).trans (q.block k ab (fun e=>by have:=(n3.lt k e.symm).1;omega))⟩,X.un⟩,?_⟩
 ·refine⟨X.ok.m4,X.ok.h4,X.ok.hok,by show(p.ps++[s]).length<=300;rw[ary,ar4];omega,fun r hr=>?_,X.ok.un,X.ok.ne⟩;rcases ar7.1 hr with hr|hr
  ·exact X.ok.pk r hr
  ·rw[arL.1 hr];exact hs
 ·rw[ary,ar4,XV];exact aj O fun k o f e=>dE hb X.qx.2.2.symm e
 ·refine(Fx.grown q (fun k e=>.inr (.inr (.inr e))) (D':=Dm g M H P') ?_).trans (Fx.set (.inl rfl));rintro k (h|h|h|h)
  ·exact .inl (.inl h)
  ·exact .inl (.inr (.inl h))
  ·exact .inl (.inr (.inr (.inl h)))
  ·rcases hat k h with h|h
   ·exact .inl (.inr (.inr (.inr h)))
   ·exact .inr h
theorem Pr.vW {k r x:Nat}(X:Pr ty B w g M (slice (some ⟨gh,0,none⟩) p.hs.length hc) P U p)(hf:p.fr=false)(hk:k<p.hs.length)(h1:1<=r)(h2:r<=31)(hx:x<4294967296):Pr ty B (w.setCell ⟨gh,k*37+r,none⟩ (int .u32 x)) g M (slice (some ⟨gh,0,none⟩) p.hs.length hc) P U { p with hs:=p.hs.set k { hAt p k with regs:=(hAt p k).regs.set r x } }/\ Fx (Dm g M (slice (some ⟨gh,0,none⟩) p.hs.length hc) P) (Dm g M (slice (some ⟨gh,0,none⟩) p.hs.length hc) P) w (w.setCell ⟨gh,k*37+r,none⟩ (int .u32 x)):=by
 obtain⟨N,n1,n2,n3,_⟩:=X.row;obtain⟨o1,o2⟩:=X.ok.hok _ (rC hk);have hg:p.hs[k]?=some (hAt p k):=by unfold hAt;rw[ar2,arq hk];rfl
 obtain⟨hb,Y⟩:=X.mx.set hg (show r<37 by omega) (zz o1 (show r<32 by omega) (x:Int)) (Ju o1 o2 h1 h2 hx).1;have hh:∃o,w.heap[gh]?=some (.cells o 43 (0,0)):=by
  rcases X.mx.hrt.2 with⟨h0,_⟩|⟨k',cap,cur,hv,_,he,_⟩
  ·cases h0
  ·injection hv with hv;injection hv with hv;injection hv with hv;subst hv;exact⟨_,he⟩
 obtain⟨oh,he⟩:=hh;refine⟨⟨X.qx,X.bg,(dE he X.qx.2.1 X.blk).trans X.blk,Y,?_,⟨N,n1,by simpa using n2,aj n3 fun k o f e=>dE he an e,fun h=>by rw[show p.fr=true from h]at hf;cases hf⟩,X.un⟩,Fx.set (.inr (.inr (.inl rfl)))⟩;refine⟨X.ok.m4,by show(p.hs.set k _).length<=4;rw[asn];exact X.ok.h4,fun h hm=>?_,X.ok.p3,X.ok.pk,fun h=>(by rw[show p.fr=true from h]at hf;cases hf),fun h=>by rw[show p.fr=true from h]at hf;cases hf⟩;rcases List.mem_or_eq_of_mem_set hm with hm|rfl
 ·exact X.ok.hok h hm
 ·exact Ju o1 o2 h1 h2 hx
theorem Pr.ZP (X:Pr ty B w g M H P U p):∀i v,w.cell? ⟨g,i,none⟩=some v->∀z,v≠int .u8 z/\v≠int .u32 z:=by
 obtain⟨ma,mc,ha,hc,pa,pc,ua,un,uc,rfl,rfl,rfl,rfl,_⟩:=X.open;intro i v hv z;rw[cr X.blk]at hv
 match i,hv with
 |0,hv=>simp at hv;subst hv;simp
 |1,hv=>simp at hv;subst hv;simp
 |2,hv=>simp at hv;subst hv;simp
 |3,hv=>simp at hv;subst hv;simp
 |4,hv=>simp at hv;subst hv;simp
 |i+5,hv=>simp at hv
theorem Pr.ran {kY}(X:Pr ty B w g M H P U p)(G:Gr w w1)(Q:Ch g w1 w2)(hb:w2.heap[g]?=some (.cells #[M',H',slice none 0 0,U',.bool fr'] ty (0,0)))(Y:Mx w1 w.heap.size M' H' m' hs')(ok:mM ⟨m',hs',[],kY,fr'⟩)(hu:fr'=true->∃ua uc,U'=slice ua kY.length uc/\kY.length<=uc/\Un w1 ua kY.length kY)(un:∃ua n uc,U'=slice ua n uc):Pr ty B w2 g M' H' (slice none 0 0) U' ⟨m',hs',[],kY,fr'⟩/\Fx (Dm g M H P) (Dm g M' H' (slice none 0 0)) w w2:=by
 have X1:=X.gr G;have kp:∀{t:Nat},t≠ty->∀{k:Nat} {o:Array Value} {f:Nat×Nat},w1.heap[k]?=some (.cells o t f)->w2.heap[k]?=w1.heap[k]?:=by intro t ht k o f e;exact Q.block k (gs e).1 (fun h=>by injection h with h;exact aa e X1.blk ht h)
 have h1:=aj Y.mem fun k o f e=>kp X.qx.1.symm e
 have h2:=aj Y.hrt fun k o f e=>kp X.qx.2.1.symm e
 have up:∀{e sz n:Nat} {v:Value} {xs:List Value},w2.ownsRow w.heap.size e sz v n xs->w2.ownsRow B e sz v n xs:=fun h=>by
  rcases h with⟨a,b|⟨k,cap,cur,hv,hk,r⟩⟩
  ·exact⟨a,.inl b⟩
  ·exact⟨a,.inr ⟨k,cap,cur,hv,arF X.le hk,r⟩⟩
 refine⟨⟨X.qx,X.bg,hb,⟨up h1,up h2,Y.ok⟩,ok,⟨w1.heap.size,arF X.le G.size,Q.size,awG _ _ _ _,fun hf=>?_⟩,un⟩,?_⟩
 ·obtain⟨ua,uc,e,h3,h4⟩:=hu hf;exact⟨w1,ua,uc,e,h3,rfl,Q.size,h4,X1.ZP,fun k hk hg=>.inl (Q.block k hk (fun h=>by injection h with h;exact hg h))⟩
 ·refine⟨Q.os.trans G.os,Q.tape.trans G.tape,Q.output.trans G.output,arF G.size Q.size,fun k hk hd=>(Q.block k (arD hk G.size) (fun h=>by injection h with h;exact hd (.inl h))).trans (G.block k hk),?_⟩;rintro k (h|h|h|h)
  ·exact .inl (.inl h)
  ·exact .inr (Y.mem.lt k h).1
  ·exact .inr (Y.hrt.lt k h).1
  ·cases h
theorem Pr.ada (X:Pr ty B w g M H P U p)(G:Gr w w1)(Q:Ch g w1 w2)(hb:w2.heap[g]?=some (.cells #[M',H',P,U,.bool false] ty (0,0)))(Y:Mx w1 w.heap.size M' H' m' hs')(ok:mM { p with m:=m',hs:=hs',fr:=false }):Pr ty B w2 g M' H' P U { p with m:=m',hs:=hs',fr:=false }/\Fx (Dm g M H P) (Dm g M' H' P) w w2:=by
 have X1:=X.gr G;obtain⟨N,n1,n2,n3,_⟩:=X1.row;have kp:∀{t:Nat},t≠ty->∀{k:Nat} {o:Array Value} {f:Nat×Nat},w1.heap[k]?=some (.cells o t f)->w2.heap[k]?=w1.heap[k]?:=by intro t ht k o f e;exact Q.block k (gs e).1 (fun h=>by injection h with h;exact aa e X1.blk ht h)
 have h1:=aj Y.mem fun k o f e=>kp X.qx.1.symm e
 have h2:=aj Y.hrt fun k o f e=>kp X.qx.2.1.symm e
 have up:∀{e sz n:Nat} {v:Value} {xs:List Value},w2.ownsRow w.heap.size e sz v n xs->w2.ownsRow B e sz v n xs:=fun h=>by
  rcases h with⟨a,b|⟨k,cap,cur,hv,hk,r⟩⟩
  ·exact⟨a,.inl b⟩
  ·exact⟨a,.inr ⟨k,cap,cur,hv,arF X.le hk,r⟩⟩
 refine⟨⟨X.qx,X.bg,hb,⟨up h1,up h2,Y.ok⟩,ok,⟨N,n1,arF n2 Q.size,aj n3 fun k o f e=>kp X.qx.2.2.symm e,fun hf=>by cases hf⟩,X.un⟩,?_⟩;refine⟨Q.os.trans G.os,Q.tape.trans G.tape,Q.output.trans G.output,arF G.size Q.size,fun k hk hd=>(Q.block k (arD hk G.size) (fun h=>by injection h with h;exact hd (.inl h))).trans (G.block k hk),?_⟩;rintro k (h|h|h|h)
 ·exact .inl (.inl h)
 ·exact .inr (Y.mem.lt k h).1
 ·exact .inr (Y.hrt.lt k h).1
 ·exact .inl (.inr (.inr (.inr h)))
end Vp
namespace Vp
open Mm Hh Hc Mc Ud As
structure Gs (w:World) (b m:Nat) (Ls:List (List (List Nat))):Prop where
 len:Ls.length=m
 lt:b<w.heap.size
 at_:∀(i:Nat) (L:List (List Nat)),Ls[i]?=some L->∃a n c,w.cell? ⟨b,i,none⟩=some (slice a n c)/\Ts w a n L/\(a=none->c=0)
theorem Gs.of {b m}{Ls}(h:Gs w b m Ls)(G:Gr w w'):Gs w' b m Ls:=
 ⟨h.len,arD h.lt G.size,fun i L hi=>by
  obtain⟨a,n,c,e,t,k⟩:=h.at_ i L hi;exact⟨a,n,c,(G.cell _ (by exact h.lt)).trans e,t.of G,k⟩⟩
theorem R7 (hn:n<=1000000)(w):Calls prog 105 #[slice none 0 0,int i64 n] w fun e w'=>∃a c,e=returned (slice a 0 c)/\w'.ownsRow w.heap.size 9 1 (slice a 0 c) 0 []/\Gr w w':=by
 by_cases h0:n=0
 ·subst h0;go_enter func105,ntmps105;go_wp2_with fail;go_ret;exact⟨none,0,rfl,awG _ _ _ _,Gr.refl _⟩
 ·obtain⟨i0,hi,hz0,hz1,hz2⟩:=awS yX;have hrz:∀ty,(Builtin.append_ #[22,3] ty #[slice none 0 0,int i64 (n:Int)]).run prog w=.ok (slice (some ⟨w.heap.size,0,none⟩) (0+n) (grownCap w (0+n) 0 9)) (w.drew.alloc (.cells ((#[]:Array Value)++Builtin.zeroCells (Value.string ⟨#[]⟩).cells n++Builtin.zeroCells (Value.string ⟨#[]⟩).cells (grownCap w (0+n) 0 9-(0+n))) 9)):=fun ty=>
   Lib.run_append_grow_zeros w 22 3 ty 9 i0 (string ⟨#[]⟩) i64 i64 underlying22 underlying3 hi hz0 none 0 0 [] (run_firstCells_none w.drew i0.size 0 0 0) n ab ab ab ab (by rw[hz2];omega) (by rw[hz2];exact growslice_fits ab ab)
  have hle:Hid _:=grownCap_le_maxLen w (0+n) 0 9 bj;have hge:Hid (0+n<=grownCap w (0+n) 0 9):=grownCap_ge w _ _ _;rw[arH]at *
  generalize grownCap w n 0 9=C at *
  have hcs:Hid (((#[]:Array Value)++Builtin.zeroCells (Value.string ⟨#[]⟩).cells n++Builtin.zeroCells (Value.string ⟨#[]⟩).cells (C-n)).size=C*1):=by
   have:=hge.out;unfold Hid Builtin.zeroCells;simp[Value.cells];omega
  generalize((#[]:Array Value)++Builtin.zeroCells (Value.string ⟨#[]⟩).cells n++Builtin.zeroCells (Value.string ⟨#[]⟩).cells (C-n))=cells at *
  go_enter func105,ntmps105;go_wp2_with (at_builtin;refine Lib.wpList_append_run _ rfl _ _ _ _ rfl _ _ rfl rfl _ _ (hrz _) ?_);go_ret;exact⟨_,_,rfl,axz w.drew cells C (arA _) hle hcs,Below.drew ((Gr.refl w).alloc _)⟩
def fl (Ls:List (List (List Nat))) (k:Nat):Nat:=(Ls.take k).flatten.length
def fm (Ls:List (List (List Nat))) (k:Nat):List Value:=(Ls.take k).flatten.map str
theorem za {Ls:List (List (List Nat))}(h:Ls[k]?=some L):(Ls.take (k+1)).flatten=(Ls.take k).flatten++L:=by rw[arW,h];simp
theorem Bo {Ls:List (List (List Nat))}(k):(Ls.take k).flatten.length<=Ls.flatten.length:=by
 conv=>rhs;rw[<-asr k Ls,List.flatten_append,ary]
 omega
theorem GQ {m}{Ls}(S:Gs w b m Ls)(hz:Ls.flatten.length<=1000000)(hm:m<=1000000):Calls prog 81 #[slice (some ⟨b,0,none⟩) m c] w fun e w'=>∃a k,e=returned (slice a (fl Ls m) k)/\w'.ownsRow w.heap.size 9 1 (slice a (fl Ls m) k) (fl Ls m) (fm Ls m)/\Gr w w':=by
 obtain⟨i0,hi,hz0,hz1,hz2⟩:=awS yX;have HS:=kH S;have HZ:=kH hz;go_enter func81,ntmps81;go_wp2_with fail;go_loopw [3,11] (fun s i wr=>∃k:Nat,k<=m/\i=int i64 k/\s=int i64 (fl Ls k:Nat)/\w=wr) (fun _ i _=>m-(intOf i).toNat)
 case atStart=>exact⟨0,arQ _,rfl,rfl,rfl⟩
 case round=>
  obtain⟨k,hk,rfl,rfl,rfl⟩:=hrel;by_cases hlt:k<m
  ·obtain⟨L,hL⟩:∃L,Ls[k]?=some L:=⟨_,arq (by rw[HS.out.len];exact hlt)⟩;obtain⟨a,n,cc,e,t,_⟩:=HS.at_ k L hL;have hf:=za hL;have h1:(fl Ls (k+1))<=Ls.flatten.length:=Bo (Ls:=Ls) (k+1);have hn:=t.len;have hl:(fl Ls (k+1))=(fl Ls k)+n:=by unfold fl;rw[hf,ary,hn]
   have h2:=HZ;have HR:=kH hl;rw[hl]at h1;generalize(fl Ls k)=q at *
   have q1:q+n<=1000000:=ab;have hw:IntKind.i64.wrap ((q:Int)+(n:Int))=(q:Int)+(n:Int):=by rw[awO];omega
   have hd:decide ((q:Int)+(n:Int)<0)=false:=awq ab;go_wp2_with fail;go_roundw
   case rel=>exact⟨k+1,ab,by go_num,by rw[HR.out];go_num,by first|exact rfl|trivial⟩
   case measure=>simp[intOf];omega
  ·have e0:k=m:=ab;subst e0;have HZ2:Hid _:=arF (Bo k) HZ;have LP:Hid (∀W:World,_):=fun W=>R7 HZ2 W
   go_wp2_with fail;refine(LP _).mono ?_;rintro e w1 ⟨a0,c0,rfl,O0,G0⟩;have HO0:=kH O0;have qf:=kH G0;go_wp2_with fail;go_loopw [6,27] (fun s i wr=>∃j:Nat,j<=k/\i=int i64 j/\(∃a c,s=slice a (fl Ls j) c)/\wr.ownsRow w.heap.size 9 1 s (fl Ls j) (fm Ls j)/\Gr w wr) (fun _ i _=>k-(intOf i).toNat)
   case atStart=>exact⟨0,arQ _,rfl,⟨a0,c0,rfl⟩,HO0,qf⟩
   case round=>
    obtain⟨j,hj,rfl,⟨a1,c1,rfl⟩,O,G⟩:=hrel;have HG:=kH G;by_cases hlt2:j<k
    ·obtain⟨L,hL⟩:∃L,Ls[j]?=some L:=⟨_,arq (by rw[HS.out.len];exact hlt2)⟩;obtain⟨a,n,cc,e,t,hcn⟩:=HS.at_ j L hL;have k1:=(G.cell _ (by exact HS.lt)).trans e;have hf:=za hL;have h1:(fl Ls (j+1))<=Ls.flatten.length:=Bo (Ls:=Ls) (j+1);have hn:=t.len;have hl:(fl Ls (j+1))=(fl Ls j)+n:=by unfold fl;rw[hf,ary,hn]
     have h2:=HZ;have HR:=kH hl;have HF:Hid (fm Ls (j+1)=fm Ls j++L.map str):=by unfold Hid fm;rw[hf,asl]
     rw[hl]at h1;have HO:=kH O;have HT:Hid _:=acK (t.of G) hcn;have H1:Hid _:=XH L;generalize fm Ls j=old at *
     generalize(fl Ls j)=q at *
     generalize L.map str=news at *
     have q1:q+n<=1000000:=ab;go_wp2_with (at_builtin;refine qZ rfl (tmp 31) (tmp 32) rfl underlying22 hi hz0 hz1 hz2 rfl an (v:=slice a1 q c1) (vx:=slice a n cc) rfl rfl HO HT H1 bj ab (HG.size) ?_;intro v' w2 hown hgrow;obtain⟨_,_,a2,c2,rfl⟩:=au hown);have kT:=kH hown;have HG2:=kH (HG.grown hgrow (fun b hb=>(HO.lt b hb).1));go_wp2_with fail;go_roundw
     case rel=>exact⟨j+1,ab,by go_num,⟨a2,c2,by rw[HR.out]⟩,by rw[HR.out,HF.out];exact kT,HG2⟩
     case measure=>simp[intOf];omega
    ·have e0:j=k:=ab;subst e0;have HO:=kH O;go_wp2_with fail;go_ret;exact⟨a1,c1,rfl,HO,HG⟩
def jn:List (List Nat)→List Nat
 | []=>[]
 |a::r=>r.foldl (fun t x=>t++32::x) a
theorem zb:∀(r:List (List Nat)) (a:List Nat),r.foldl (fun t x=>t++32::x) a=a++(r.map (32::·)).flatten
 | [],a=>aq
 |x::r,a=>by
  rw[List.foldl_cons,zb r];simp
theorem JG (a)(r):jn (a::r)=a++(r.map (32::·)).flatten:=zb r a
theorem JH (L):Lib.join ((L.map bs).map (·.data.toList)) [32]=(jn L).map UInt8.ofNat:=by
 cases L with
 |nil=>rfl
 |cons a r=>
  rw[asD,asD,Lib.join_cons,bV];unfold Lib.joinTail;rw[JG,asl];congr 1;induction r with
  |nil=>rfl
  |cons x r ih=>
   simp only[asD,asQ,asl]at ih ⊢;rw[ih,bV];rfl
theorem adb (h:∀x∈L,x.length<=40):(jn L).length<=41*L.length:=by
 cases L with
 |nil=>simp[jn]
 |cons a r=>
  rw[JG,ary];have h1:=h a aq;have h2:∀r:List (List Nat),(∀x∈r,x.length<=40)->((r.map (32::·)).flatten).length<=41*r.length:=by
   intro r;induction r with
   |nil=>simp
   |cons x r ih=>
    intro h;have h3:=h x aq;have h4:=ih (fun y hy=>h y (by simp[hy]));simp only[asD,asQ,ary,arM];omega
  have h3:=h2 r (fun x hx=>h x (by simp[hx]));simp only[arM];omega
theorem uV (W)(l):aB W l=jn (W::l.map dg):=by
 unfold aB;show _=(l.map dg).foldl (fun t x=>t++32::x) W
 rw[List.foldl_map]
theorem XW (Ls){m}(h:Ls.length=m):fl Ls m=Ls.flatten.length/\fm Ls m=Ls.flatten.map str:=by unfold fl fm;rw[ar5 ab];exact⟨rfl,rfl⟩
theorem j5 {m c}{Ls}(S:Gs w b m Ls)(hz:Ls.flatten.length<=1000000)(hm:m<=1000000)(h0:0<Ls.flatten.length)(hx:∀x∈Ls.flatten,x.length<=40):Calls prog 51 #[slice (some ⟨b,0,none⟩) m c] w fun e w'=>e=returned (str (jn Ls.flatten))/\Gr w w':=by
 have HC:Hid (Calls prog 81 #[slice (some ⟨b,0,none⟩) m c] w fun e w'=>∃g n k,e=returned (slice (some ⟨g,0,none⟩) n k)/\(∀W,Gr w' W->Calls prog 80 #[slice (some ⟨g,0,none⟩) n k,string ⟨#[32]⟩] W fun e w2=>e=returned (str (jn Ls.flatten))/\Gr W w2)/\Gr w w'):=(GQ S hz hm).mono fun e w' ⟨a,k,he,O,G⟩=>by
  obtain⟨e1,e2⟩:=XW Ls S.len;rw[e1]at he O;rw[e2]at O;have hlen:=adb hx;obtain⟨_,h⟩:=O;rcases h with⟨h1,h2⟩|⟨g,cap,cur,hv,_,hg,hc,_,hz,ht⟩
  ·omega
  ·injection hv with hv _ hk;subst hv hk;refine⟨g,_,_,he,fun W GW=>?_,G⟩;have hj:=Tryz.strings_Join g 0 k (Ls.flatten.map bs) ⟨#[32]⟩ W (fun j x hj=>by
    rw[ar3]at hj;obtain⟨y,hy,rfl⟩:=asM.1 hj;rw[arH];refine(GW.cell _ (by exact(gs hg).1)).trans ?_;rw[cr hg];have e:=congrArg (fun l=>l[j]?) ht;simp only[ar3,hy,ar6]at e;rw[ar9]at e;split at e
    ·rw[asV]at e;exact e
    ·cases e) (arD (gs hg).1 GW.size) (by rw[asf];omega) (by rw[asf];exact hc) (by
     show(Lib.join _ [32]).length<=_
     rw[JH,asf];omega)
   rw[asf]at hj;refine hj.mono fun e w2 ⟨he,G2⟩=>⟨?_,G2⟩
   rw[he];show Ending.returned (string ⟨(Lib.join _ [32]).toArray⟩)=_
   rw[JH];rfl
 generalize str (jn Ls.flatten)=V at *
 go_enter func51,ntmps51;go_wp2_with fail;refine HC.mono ?_;rintro e w1 ⟨g,n,k,rfl,HJ,G1⟩;have HJ2:=kH (HJ w1 (Gr.refl _));go_wp2_with fail;refine HJ2.mono ?_;rintro e w2 ⟨rfl,G2⟩;go_wp2_with fail;go_ret;exact⟨rfl,G1.trans G2⟩
theorem qo {W}(h:w.heap[b]?=some (.cells #[str W] t f)):Ts w (some ⟨b,0,none⟩) 1 [W]:=
 ⟨rfl,fun _=>⟨b,0,rfl,(gs h).1,fun i x hi=>by
  obtain rfl:i=0:=by
   have:=(arw.1 hi).1;simp at this;omega
  simp only[arC,awz]at hi;subst hi;exact fA h⟩⟩
theorem XX {c}{W}(N:Ns i64 w ao n l)(hl:∀x∈l,x<9223372036854775808)(hn:n<=100000)(hW:W.length<=40)(T:ig w):Calls prog 76 #[str W,slice ao n c] w fun e w'=>e=returned (str (aB W l))/\Gr w w':=by
 have HT:Hid (∀x,Calls prog 52 #[slice ao n c] (w.alloc x) fun e w'=>∃a k,e=returned (slice a n k)/\(Ts w' a n (l.map dg)/\(a=none->k=0))/\Gr (w.alloc x) w'):=fun x=>(Rx (N.of ((Gr.refl _).alloc x)) hl ab (T.of ((Gr.refl _).alloc x))).mono fun e w' ⟨a,k,he,O,G⟩=>⟨a,k,he,⟨Ts.own O,nM O⟩,G⟩
 have HJ:Hid (∀(W0:World) (b:Nat),Gs W0 b 2 [[W],l.map dg]->Calls prog 51 #[slice (some ⟨b,0,none⟩) 2 2] W0 fun e w'=>e=returned (str (aB W l))/\Gr W0 w'):=fun W0 b S=>by
  have hl2:l.length<=100000:=by have:=N.len;omega
  have:=j5 (c:=2) S aE ab aq (fun x hx=>by
   simp only[asQ,ata,arP,ar7,arL,arY]at hx;rcases hx with rfl|⟨y,hy,rfl⟩
   ·exact hW
   ·have:=rV 19 y (by have:=hl y hy;omega);omega)
  rw[uV];simpa using this
 rw[show str W=string (bs W)from rfl]at *
 have HB:Hid (∀(b:Nat) (w:World) (t:Nat) (f:Nat×Nat),w.heap[b]?=some (.cells #[string (bs W)] t f)->_):=fun b w t f h=>qo h
 generalize bs W=B at *
 generalize str (aB W l)=V at *
 go_enter func76,ntmps76;go_wp2_with fail;refine(HT _).mono ?_;rintro e w1 ⟨a,k,rfl,HTs,G1⟩;have aU:=kH (br.trans G1);have HT1:Hid _:=HB _ _ _ _ (Hr.ae G1 (awk w _));have HT2:=kH HTs;have HGs:Hid (Gs (w1.alloc (.cells #[slice (some ⟨w.heap.size,0,none⟩) 1 1,slice a n k] 22)) w1.heap.size 2 [[W],l.map dg]):=by
  have hb:=awk w1 (.cells #[slice (some ⟨w.heap.size,0,none⟩) 1 1,slice a n k] 22);refine⟨rfl,(gs hb).1,fun i L hi=>?_⟩
  match i,hi with
  |0,hi=>
   simp only[arC,awz]at hi;subst hi;exact⟨_,_,_,fA hb,HT1.of br,fun h=>by cases h⟩
  |1,hi=>
   simp only[arJ,arC,awz]at hi;subst hi;exact⟨_,_,_,eH hb,HT2.1.of br,HT2.2⟩
 go_wp2_with fail;refine(HJ _ _ HGs).mono ?_;rintro e w2 ⟨rfl,G2⟩;go_wp2_with fail;go_ret;exact⟨rfl,(aU.alloc _).trans G2⟩
theorem XY {c}{W}(N:Ns i64 w ao n l)(hl:∀x∈l,x<9223372036854775808)(hn:n<=100000)(hW:W.length<=40)(T:ig w):Calls prog 103 #[str W,slice ao n c] w fun e w'=>e=returned (str (aB W l))/\Gr w w':=by
 have HT:Hid (∀x,Calls prog 128 #[slice ao n c] (w.alloc x) fun e w'=>∃a k,e=returned (slice a n k)/\(Ts w' a n (l.map dg)/\(a=none->k=0))/\Gr (w.alloc x) w'):=fun x=>(acM (N.of ((Gr.refl _).alloc x)) hl ab (T.of ((Gr.refl _).alloc x))).mono fun e w' ⟨a,k,he,O,G⟩=>⟨a,k,he,⟨Ts.own O,nM O⟩,G⟩
 have HJ:Hid (∀(W0:World) (b:Nat),Gs W0 b 2 [[W],l.map dg]->Calls prog 51 #[slice (some ⟨b,0,none⟩) 2 2] W0 fun e w'=>e=returned (str (aB W l))/\Gr W0 w'):=fun W0 b S=>by
  have hl2:l.length<=100000:=by have:=N.len;omega
  have:=j5 (c:=2) S aE ab aq (fun x hx=>by
   simp only[asQ,ata,arP,ar7,arL,arY]at hx;rcases hx with rfl|⟨y,hy,rfl⟩
   ·exact hW
   ·have:=rV 19 y (by have:=hl y hy;omega);omega)
  rw[uV];simpa using this
 rw[show str W=string (bs W)from rfl]at *
 have HB:Hid (∀(b:Nat) (w:World) (t:Nat) (f:Nat×Nat),w.heap[b]?=some (.cells #[string (bs W)] t f)->_):=fun b w t f h=>qo h
 generalize bs W=B at *
 generalize str (aB W l)=V at *
 go_enter func103,ntmps103;go_wp2_with fail;refine(HT _).mono ?_;rintro e w1 ⟨a,k,rfl,HTs,G1⟩;have aU:=kH (br.trans G1);have HT1:Hid _:=HB _ _ _ _ (Hr.ae G1 (awk w _));have HT2:=kH HTs;have HGs:Hid (Gs (w1.alloc (.cells #[slice (some ⟨w.heap.size,0,none⟩) 1 1,slice a n k] 22)) w1.heap.size 2 [[W],l.map dg]):=by
  have hb:=awk w1 (.cells #[slice (some ⟨w.heap.size,0,none⟩) 1 1,slice a n k] 22);refine⟨rfl,(gs hb).1,fun i L hi=>?_⟩
  match i,hi with
  |0,hi=>
   simp only[arC,awz]at hi;subst hi;exact⟨_,_,_,fA hb,HT1.of br,fun h=>by cases h⟩
  |1,hi=>
   simp only[arJ,arC,awz]at hi;subst hi;exact⟨_,_,_,eH hb,HT2.1.of br,HT2.2⟩
 go_wp2_with fail;refine(HJ _ _ HGs).mono ?_;rintro e w2 ⟨rfl,G2⟩;go_wp2_with fail;go_ret;exact⟨rfl,(aU.alloc _).trans G2⟩
end Vp
namespace Vp
open Mm Hh Hc Mc Ud As
variable{w w':World}{g B:Nat}{M H P U:Value}{p:Pl}
theorem bO.mk {ty}{e}{M' H' P' U'}{r}{w1}(he:e=returned (str r.2))(X:Pr ty B w1 g M' H' P' U' r.1)(F:Fx (Dm g M H P) (Dm g M' H' P') w w1)(G:Gr w1 w'):bO ty B w g M H P r e w':=⟨he,M',H',P',U',X.gr G,F.gr G⟩
theorem dK (X:Pr 71 B w g M H P U p):Calls prog 77 #[pointer (some ⟨g,0,none⟩),int .u32 k] w fun e w'=>e=returned (.bool (decide (k<p.hs.length)))/\w=w':=by
 obtain⟨ma,mc,ha,hc,pa,pc,ua,un,uc,rfl,rfl,rfl,rfl,_⟩:=X.open;have h4:=X.ok.h4;have z1:=eH X.blk;have hw:IntKind.u32.wrap (p.hs.length:Int)=(p.hs.length:Int):=by rw[axx];omega
 have hd:decide ((k:Int)<(p.hs.length:Int))=decide (k<p.hs.length):=aq;generalize p.hs.length=n at *
 go_enter func77,ntmps77;go_wp2_with fail;go_ret;exact⟨aq,rfl⟩
theorem R8:(prog.info? 43).map (fun i=>(i.zero,i.size,i.bytes))=some (some (agg (hA ⟨List.replicate 32 0,0,false,0,0,0⟩)),37,160):=al
theorem GR (h):∀u∈hL h,u.oneCell'=true:=by
 intro u hu;unfold hL at hu;rcases ar7.1 hu with hu|hu
 ·obtain⟨b,_,rfl⟩:=arY.1 hu;rfl
 ·simp only[arG,arN,awQ]at hu;rcases hu with rfl|rfl|rfl|rfl|rfl<;>rfl
theorem Br (w:World)(a)(v)(o):((w.setCell a v).alloc o).heap[w.heap.size]?=some o:=by have:=awk (w.setCell a v) o;rwa[show(w.setCell a v).heap.size=w.heap.size by simp]at this
theorem iHz:(prog.info? 43).map (fun i=>(i.zero.isSome,i.size))=some (true,37):=al
theorem ze (x):prog.built 43 [(1,int .u32 x)]=some (hA ⟨List.replicate 32 0,x,false,0,0,0⟩):=al
theorem XZ (x:Value)(h:x.oneCell'=true):∀u∈[x],u.oneCell'=true:=fun u hu=>by rw[arL.1 hu];exact h
theorem qp {K}{x:Nat}(h:w.heap[b]?=some (.cells #[int K x] t f)):Ns K w (some ⟨b,0,none⟩) 1 [x]:=
 ⟨rfl,fun _=>⟨b,0,rfl,(gs h).1,fun i y hi=>by
  obtain rfl:i=0:=by
   have:=(arw.1 hi).1;simp at this;omega
  simp only[arC,awz]at hi;subst hi;exact fA h⟩⟩
theorem GU {x:Nat}(hx:x<=1000000){W}(h:W.heap[b]?=some (.cells #[int i64 x] t f))(T:ig W):Calls prog 76 #[string ⟨#[111,107]⟩,slice (some ⟨b,0,none⟩) 1 1] W fun e w'=>e=returned (str (aB sU [x]))/\Gr W w':=XX (c:=1) (qp h) (fun y hy=>by rw[arL.1 hy];omega) ab an T
theorem R9 {x:Nat}(hx:x<4294967296)(X:Pr 71 B w g M H P U p)(T:∀{W},Below B w W->ig W):Calls prog 44 #[pointer (some ⟨g,0,none⟩),int .u32 x] w (bO 71 B w g M H P (lW p [x])):=by
 have h4:=X.ok.h4;by_cases hc:p.hs.length<4
 ·obtain⟨ma,mc,ha,hc0,pa,pc,ua,un,uc,rfl,rfl,rfl,rfl,_⟩:=X.open;obtain⟨i0,hi,hz0,hz1,hz2⟩:=awS R8;obtain⟨X1,F1⟩:=X.down;have ok1:=Jt hx;have e:lW p [x]=({ p with hs:=p.hs++[fJ x],fr:=false },aB sU [p.hs.length+1]):=by simp only[lW,awn hc]
  rw[e];have z1:=eH X.blk;have f4:w.frozen? ⟨g,4,none⟩=false:=iA X.blk;have y1:=eH X1.blk;have z4:=tO X.blk;have jy:=kH X1;have mO:=kH F1;have HT:Hid (∀{W:World},Below B w W->ig W):=T;have hlen:(hA (fJ x)).size=37:=by show(hL _).toArray.size=37;rw[asb];exact aF ok1.1
  have BV:=kH hlen;have Sa:=kH (ze x);have HON:=kH (GR (fJ x));have yA:=kH ok1;have HLE:Hid (p.hs.length+1<=4):=by unfold Hid;omega
  have Ya:=kH X.le;have HDM:=kH X.dom;have HN:Hid (∀(W:World) (b:Nat),Below B w W->W.heap[b]?=some (.cells #[int i64 ((p.hs.length:Int)+1)] 3 (0,0))->_):=fun W b hb h=>GU (x:=p.hs.length+1) ab h (HT.out hb)
  have HOW:Hid (∀o,_):=fun o=>aD jy.mx.hrt ((Gr.refl _).alloc o)
  have adf:Hid (∀(W:World) (j:Nat) (u:Value),(hL (fJ x))[j]?=some u->(W.alloc (.cells (hA (fJ x)) 43)).cell? ((⟨W.heap.size,0,none⟩:Addr).add j)=some u):=fun W j u hj=>by
   rw[cK,arH,cr (awk W _)];show(hL (fJ x)).toArray[j]?=some u
   rw[arB];exact hj
  have wY:=kH (aF yA.1);have GY:Hid (∀(o:Obj) (w2:World) (H':Value),((w.setCell ⟨g,4,none⟩ (.bool false)).alloc o).grownBy w2 (Value.slice ha p.hs.length hc0).ownBlock->w2.ownsRow B 43 37 H' (p.hs.length+1) (hC p.hs++hL (fJ x))->(∀k,H'.ownBlock=some k->(Value.slice ha p.hs.length hc0).ownBlock=some k\/((w.setCell ⟨g,4,none⟩ (.bool false)).alloc o).heap.size<=k)->
    w2.heap[g]?=some (.cells #[slice ma p.m.length mc,slice ha p.hs.length hc0,slice pa p.ps.length pc,slice ua un uc,.bool false] 71 (0,0))/\Pr 71 B (w2.setCell ⟨g,1,none⟩ H') g (slice ma p.m.length mc) H' (slice pa p.ps.length pc) (slice ua un uc) { p with hs:=p.hs++[fJ x],fr:=false }/\Fx (Dm g (slice ma p.m.length mc) (slice ha p.hs.length hc0) (slice pa p.ps.length pc)) (Dm g (slice ma p.m.length mc) H' (slice pa p.ps.length pc)) w (w2.setCell ⟨g,1,none⟩ H')):=fun o w2 H' q O hat=>by
   obtain⟨a,b,c⟩:=(jy.gr ((Gr.refl _).alloc o)).agG rfl yA HLE q O hat;exact⟨a,b,(mO.gr ((Gr.refl _).alloc o)).trans c⟩
  have hq1:=HLE;generalize p.hs.length=q at *
  have HZ:Hid (B<=(w.setCell ⟨g,4,none⟩ (.bool false)).heap.size):=by have:=Ya.out;unfold Hid;simpa using this
  go_enter func44,ntmps44
  go_wp2_with (first
   |(refine axt rfl 43 _ rfl _ rfl (hA (fJ x)) (by have:=Sa;simp[Act.eval,Act.put];exact this) ?_)
   |(refine xK rfl 26 43 (tmp 22) rfl (hA (fJ x)) 37 rfl BV underlying26 iHz an an ?_)
   |(at_builtin;refine fK rfl (tmp 20) (tmp 23) rfl underlying26 hi hz0 hz1 hz2 rfl an (slice ha q hc0) (hC p.hs) rfl (HOW.out _) ⟨(w.setCell ⟨g,4,none⟩ (.bool false)).heap.size,0,none⟩ 1 1 (hL (fJ x)) rfl (by rw[wY.out]) (adf.out _) HON.out bj ab (by have:=HZ.out;simp at this ⊢;omega) ?_;intro v' w2 hown hgrow hat;obtain⟨_,_,a2,c2,rfl⟩:=au hown;obtain⟨hb2,X2,F2⟩:=GY.out _ _ _ hgrow hown hat;have JI:Hid _:=X2;have mP:Hid (Fx _ _ _ _):=F2;have j1:=eH hb2;have j2:w2.frozen? ⟨g,1,none⟩=false:=iA hb2;clear hown hgrow hat hb2 X2 F2))
  refine(HN.out _ _ ((mP.out.gr br).below (fun k hk=>(HDM.out k hk).1) Ya.out) (Br _ _ _ _)).mono ?_;rintro e w3 ⟨rfl,G3⟩;go_wp2_with fail;go_ret;exact bO.mk rfl JI mP (br.trans G3)
 ·have e:lW p [x]=(p,aQ):=by simp only[lW,awm hc]
  rw[e];obtain⟨ma,mc,ha,hc0,pa,pc,ua,un,uc,rfl,rfl,rfl,rfl,_⟩:=X.open;have z1:=eH X.blk;have HX:=kH X;generalize hq:p.hs.length=n at *
  have h5:n=4:=ab;go_enter func44,ntmps44;go_wp2_with fail;go_ret;exact⟨rfl,_,_,_,_,HX,Fx.refl _ _⟩
theorem uW {hs}(h:w.ownsRow B 43 37 (slice ha n c) n (hC hs))(hn:0<n):∃gh o,ha=some ⟨gh,0,none⟩/\w.heap[gh]?=some (.cells o 43 (0,0)):=by
 rcases h.2 with⟨_,h0⟩|⟨k,cap,cur,hv,_,he,_⟩
 ·omega
 ·injection hv with hv;exact⟨k,cur,hv,he⟩
theorem Yb {r x:Nat}(hx:x<4294967296)(X:Pr 71 B w g M H P U p)(hk:k<p.hs.length)(h1:1<=r)(h2:r<=31):Calls prog 45 #[pointer (some ⟨g,0,none⟩),int .u32 k,int .u32 r,int .u32 x] w (bO 71 B w g M H P (o5 p [k,r,x])):=by
 have e:o5 p [k,r,x]=({ p with hs:=p.hs.set k { hAt p k with regs:=(hAt p k).regs.set r x },fr:=false },sU):=by simp only[o5,awn (show k<p.hs.length/\1<=r/\r<=31 from⟨hk,h1,h2⟩)]
 rw[e];have h4:=X.ok.h4;obtain⟨ma,mc,ha,hc0,pa,pc,ua,un,uc,rfl,rfl,rfl,rfl,_,_,hH,_⟩:=X.open;obtain⟨gh,oh,rfl,he⟩:=uW X.mx.hrt ab;have JD:Hid (∀W:World,Pr 71 B W g (slice ma p.m.length mc) (slice (some ⟨gh,0,none⟩) p.hs.length hc0) (slice pa p.ps.length pc) (slice ua un uc) { p with fr:=false }->Calls prog 77 #[pointer (some ⟨g,0,none⟩),int .u32 k] W fun e w'=>e=returned (.bool true)/\W=w'):=fun W Y=>(dK Y).mono fun e w' ⟨a,b⟩=>⟨by rw[a];exact congrArg (fun t=>Ending.returned (.bool t)) (awC hk),b⟩
 obtain⟨X1,F1⟩:=X.down;obtain⟨X2,F2⟩:=Pr.vW (p:={ p with fr:=false }) (k:=k) X1 rfl hk h1 h2 hx;have f4:w.frozen? ⟨g,4,none⟩=false:=iA X.blk;have z4:=tO X.blk;have y1:=eH X1.blk;have he1:=(dE (i:=4) (v:=.bool false) X.blk an he).trans he;have fh:(w.setCell ⟨g,4,none⟩ (.bool false)).frozen? ⟨gh,k*37+r,none⟩=false:=iA he1;obtain⟨v0,hv0⟩:∃v0,(w.setCell ⟨g,4,none⟩ (.bool false)).cell? ⟨gh,k*37+r,none⟩=some v0:=by
  obtain⟨b,o,e2,_,hc⟩:=hH.spot ab;injection e2 with e2;injection e2 with e3 e4;subst e3 e4;have h5:=mg (hH.ok _ (rC hk)) (show r<32 by omega);have h6:=hc k (hAt p k) (by unfold hAt;rw[ar2,arq hk];rfl) r _ h5;rw[arH]at h6;exact⟨_,(awv (a:=⟨gh,k*37+r,none⟩) (dE (i:=4) (v:=.bool false) X.blk an he)).trans h6⟩
 have d1:decide ((r:Int)<1)=false:=awq ab;have d2:decide ((r:Int) > 31)=false:=awq ab;have d3:decide ((31:Int)<r)=false:=awq ab;have k0:(k:Int)<(p.hs.length:Int):=ab;have r0:(r:Int)<32:=ab;have jy:=kH X1;have JI:=kH X2;have mP:=kH (F1.trans F2);generalize p.hs.length=n at *
 go_enter func45,ntmps45;go_wp2_with fail;refine(JD _ jy).mono ?_;rintro e w1 ⟨rfl,rfl⟩;go_wp2_with fail;go_ret;exact bO.mk rfl JI mP (Gr.refl _)
theorem adg {r x:Nat}(X:Pr 71 B w g M H P U p)(hn:¬(k<p.hs.length/\1<=r/\r<=31)):Calls prog 45 #[pointer (some ⟨g,0,none⟩),int .u32 k,int .u32 r,int .u32 x] w (bO 71 B w g M H P (o5 p [k,r,x])):=by
 have e:o5 p [k,r,x]=({ p with fr:=false },aQ):=by simp only[o5,awm hn]
 rw[e];have JD:Hid (∀W:World,Pr 71 B W g M H P U { p with fr:=false }->Calls prog 77 #[pointer (some ⟨g,0,none⟩),int .u32 k] W fun e w'=>e=returned (.bool (decide (k<p.hs.length)))/\W=w'):=fun W Y=>(dK Y).mono fun e w' ⟨a,b⟩=>⟨a,b⟩
 obtain⟨X1,F1⟩:=X.down;have f4:w.frozen? ⟨g,4,none⟩=false:=iA X.blk;have z4:=tO X.blk;have jy:=kH X1;have mO:=kH F1;by_cases hk:k<p.hs.length
 ·rw[awC hk]at JD;by_cases h1:1<=r
  ·have d1:decide ((r:Int)<1)=false:=awq ab;have d2:decide ((r:Int) > 31)=true:=awC ab;have d3:decide ((31:Int)<r)=true:=awC ab;go_enter func45,ntmps45;go_wp2_with fail;refine(JD _ jy).mono ?_;rintro e w1 ⟨rfl,rfl⟩;go_wp2_with fail;go_ret;exact bO.mk rfl jy mO (Gr.refl _)
  ·have d1:decide ((r:Int)<1)=true:=awC ab;go_enter func45,ntmps45;go_wp2_with fail;refine(JD _ jy).mono ?_;rintro e w1 ⟨rfl,rfl⟩;go_wp2_with fail;go_ret;exact bO.mk rfl jy mO (Gr.refl _)
 ·rw[awq hk]at JD;go_enter func45,ntmps45;go_wp2_with fail;refine(JD _ jy).mono ?_;rintro e w1 ⟨rfl,rfl⟩;go_wp2_with fail;go_ret;exact bO.mk rfl jy mO (Gr.refl _)
theorem Sb:(prog.info? 45).map (fun i=>(i.zero,i.size,i.bytes))=some (some (agg #[int i64 0,int i64 0]),2,16):=al
theorem JJ {x y}(h:w.heap[b]?=some (.cells #[x,y] t f)):∀j u,([x,y]:List Value)[j]?=some u->w.cell? ((⟨b,0,none⟩:Addr).add j)=some u:=by intro j u hj;rw[cK,arH,cr h];simpa using hj
theorem EB (x y):∀u∈[Value.int i64 x,int i64 y],u.oneCell'=true:=by intro u hu;simp only[arG,arN,awQ]at hu;rcases hu with rfl|rfl<;>rfl
theorem Sd (hk:k<4294967296)(hn:n<4294967296)(X:Pr 71 B w g M H P U p)(T:∀{W},Below B w W->ig W):Calls prog 46 #[pointer (some ⟨g,0,none⟩),int .u32 k,int .u32 n] w (bO 71 B w g M H P (lX p [k,n])):=by
 obtain⟨ma,mc,ha,hc0,pa,pc,ua,un,uc,rfl,rfl,rfl,rfl,_⟩:=X.open;have z2:=uJ X.blk;have p3:=X.ok.p3;by_cases hc:p.ps.length<300
 ·have e:lX p [k,n]=({ p with ps:=p.ps++[((k:Int),(n:Int))] },aB sU [p.ps.length+1]):=by simp only[lX,awn hc]
  rw[e];obtain⟨i0,hi,hz0,hz1,hz2⟩:=awS Sb;obtain⟨N,n1,n2,n3,n4⟩:=X.row;have Ya:=kH X.le;have HDM:=kH X.dom;have HN:Hid (∀(W:World) (b:Nat),Below B w W->W.heap[b]?=some (.cells #[int i64 ((p.ps.length:Int)+1)] 3 (0,0))->_):=fun W b hb h=>GU (x:=p.ps.length+1) ab h (T hb)
  have HOW:Hid (∀o,_):=fun o=>aD n3 ((Gr.refl _).alloc o)
  have GY:Hid (∀(o:Obj) (w2:World) (P':Value),(w.alloc o).grownBy w2 (Value.slice pa p.ps.length pc).ownBlock->w2.ownsRow N 45 2 P' (p.ps.length+1) (pC p.ps++[int i64 (k:Int),int i64 (n:Int)])->(∀q,P'.ownBlock=some q->(Value.slice pa p.ps.length pc).ownBlock=some q\/(w.alloc o).heap.size<=q)->
    w2.heap[g]?=some (.cells #[slice ma p.m.length mc,slice ha p.hs.length hc0,slice pa p.ps.length pc,slice ua un uc,.bool p.fr] 71 (0,0))/\Pr 71 B (w2.setCell ⟨g,2,none⟩ P') g (slice ma p.m.length mc) (slice ha p.hs.length hc0) P' (slice ua un uc) { p with ps:=p.ps++[((k:Int),(n:Int))] }/\Fx (Dm g (slice ma p.m.length mc) (slice ha p.hs.length hc0) (slice pa p.ps.length pc)) (Dm g (slice ma p.m.length mc) (slice ha p.hs.length hc0) P') w (w2.setCell ⟨g,2,none⟩ P')):=fun o w2 P' q O hat=>by
   have G:=(Gr.refl w).alloc o;obtain⟨a,b,c⟩:=(X.gr G).pkA (s:=((k:Int),(n:Int))) n1 (arF n2 G.size) (aD n3 G) (fun h=>(n4 h).step G.size fun j hj _=>G.block j ab) ⟨bl,bl,bl,bl⟩ ab q O hat;exact⟨a,b,(Fx.aJ G).trans c⟩
  have HN2:=kH n2;have hq1:p.ps.length+1<=300:=ab;have w1:IntKind.i64.wrap (k:Int)=(k:Int):=by rw[awO];omega
  have w3:IntKind.i64.wrap (n:Int)=(n:Int):=by rw[awO];omega
  generalize p.ps.length=q at *
  go_enter func46,ntmps46;go_wp2_with (at_builtin;refine fK rfl (tmp 17) (tmp 23) rfl underlying29 hi hz0 hz1 hz2 rfl an (slice pa q pc) (pC p.ps) rfl (HOW _) ⟨w.heap.size,0,none⟩ 1 1 [int i64 (k:Int),int i64 (n:Int)] rfl rfl (JJ (awk w _)) (EB _ _) bj ab (by have:=HN2;simp at this ⊢;omega) ?_;intro v' w2 hown hgrow hat;obtain⟨_,_,a2,c2,rfl⟩:=au hown;obtain⟨hb2,X2,F2⟩:=GY _ _ _ hgrow hown hat;have JI:Hid _:=X2;have mP:Hid (Fx _ _ _ _):=F2;have j1:=uJ hb2;have j2:w2.frozen? ⟨g,2,none⟩=false:=iA hb2;clear hown hgrow hat hb2 X2 F2);refine(HN _ _ ((mP.gr br).below (fun k hk=>(HDM k hk).1) Ya) (Br _ _ _ _)).mono ?_;rintro e w4 ⟨rfl,G3⟩;go_wp2_with fail;go_ret;exact bO.mk rfl JI mP (br.trans G3)
 ·have e:lX p [k,n]=(p,aQ):=by simp only[lX,awm hc]
  rw[e];have HX:=kH X;have h5:p.ps.length=300:=ab;generalize hq:p.ps.length=q at *
  go_enter func46,ntmps46;go_wp2_with fail;go_ret;exact⟨rfl,_,_,_,_,HX,Fx.refl _ _⟩
end Vp
namespace Vp
open Mm Hh Hc Mc Ud As
variable{P:Value}{p:Pl}
theorem agH {x}(hx:x<4294967296):bc (w4 x)=[int .u8 ((x:Int)%256),int .u8 ((x:Int)/256%256),int .u8 ((x:Int)/65536%256),int .u8 ((x:Int)/16777216)]:=by
 have e:∀y:Nat,((UInt8.ofNat (y%256)).toNat:Int)=(y:Int)%256:=fun y=>by rw[awY];omega
 unfold bc w4;simp only[asD,atv];rw[e,e,e,e];have h1:((x/16777216:Nat):Int)%256=(x:Int)/16777216:=ab;simp only[List.cons.injEq,Value.int.injEq,aw7,and_true];refine⟨?_,?_,?_⟩<;>omega
theorem adh (x):(w4 x).length=4:=rfl
theorem Sg {a0 a1 a2 a3}(h:w.heap[b]?=some (.cells #[a0,a1,a2,a3] t f)):∀j u,([a0,a1,a2,a3]:List Value)[j]?=some u->w.cell? ((⟨b,0,none⟩:Addr).add j)=some u:=by intro j u hj;rw[cK,arH,cr h];simpa using hj
def wP (p:Pl) (l:List Nat) (k:Nat):Pl:={ p with m:=p.m++(l.take k).flatMap w4,fr:=false }
theorem GZ (p)(l)(hk:k<=l.length):(wP p l k).m.length=p.m.length+4*k:=by
 show(p.m++_).length=_
 rw[ary,Jv,ase,att hk]
theorem JK (p){x}(h:l[k]?=some x):wP p l (k+1)={ wP p l k with m:=(wP p l k).m++w4 x }:=by unfold wP;rw[arW,h];simp
theorem MU (X:Pr 71 B w g M H P U p)(N:Ns .u32 w na n l)(hl:∀x∈l,x<4294967296)(hna:∀b o,na=some ⟨b,o,none⟩->¬Dm g M H P b)(T:∀{W},Below B w W->ig W)(h4:p.m.length+4*l.length<=4096):Calls prog 43 #[pointer (some ⟨g,0,none⟩),slice na n c] w (bO 71 B w g M H P (dN p l)):=by
 have e:dN p l=(wP p l l.length,aB sU [p.m.length+4*l.length]):=by
  unfold dN wP;rw[ak,ash]
 rw[e];obtain⟨i0,hi,hz0,hz1,hz2⟩:=awS info5;obtain⟨X1,F1⟩:=X.down;obtain⟨ma,mc,ha,hc0,pa,pc,ua,un,uc,rfl,rfl,rfl,rfl,_⟩:=X.open;have z0:=fA X.blk;have f4:w.frozen? ⟨g,4,none⟩=false:=iA X.blk;have z4:=tO X.blk;have HX0:Hid (Pr 71 B (w.setCell ⟨g,4,none⟩ (.bool false)) g (slice ma p.m.length mc) (slice ha p.hs.length hc0) (slice pa p.ps.length pc) (slice ua un uc) (wP p l 0)):=by
  have:wP p l 0={ p with fr:=false }:=by unfold wP;simp
  unfold Hid;rw[this];exact X1
 have HF0:Hid _:=F1;have HN:=kH N;have HL:=kH hl;have HNA:=kH hna;have HDM:=kH X.dom;have Ya:=kH X.le;have HT:Hid (∀{W:World},Below B w W->ig W):=T;have hln:=N.len;have BV:=kH hln;have HLE:=kH h4;rw[hln]at h4 ⊢;have ni:p.m.length<=4096:=ab;have hD0:=kH F1;go_enter func43,ntmps43;go_wp2_with fail;go_loopw [23] (fun i wr=>∃k:Nat,k<=n/\i=int i64 k/\∃M',Pr 71 B wr g M' (slice ha p.hs.length hc0) (slice pa p.ps.length pc) (slice ua un uc) (wP p l k)/\Fx (Dm g (slice ma p.m.length mc) (slice ha p.hs.length hc0) (slice pa p.ps.length pc)) (Dm g M' (slice ha p.hs.length hc0) (slice pa p.ps.length pc)) w wr) (fun i _=>n-(intOf i).toNat)
 case atStart=>exact⟨0,arQ _,rfl,_,HX0,hD0⟩
 case round=>
  obtain⟨k,hk,rfl,M1,X,F⟩:=hrel;obtain⟨va,vc,_,_,_,_,_,_,_,rfl,_⟩:=X.open;have hlk:=GZ p l (k:=k) (by rw[BV.out];exact hk);have z0:=fA X.blk;have f0:wr.frozen? ⟨g,0,none⟩=false:=iA X.blk;have HOW:Hid (∀o,_):=fun o=>aD X.mx.mem ((Gr.refl _).alloc o)
  have HX:=kH X;have HF:=kH F;obtain⟨s,hs⟩:∃s,(wP p l k).m.length=s:=⟨_,rfl⟩;have HS:=kH hs;rw[hs]at hlk HOW z0 HF HX;have hs4:s<=4096:=ab;have HLK:=kH hlk;by_cases hlt:k<n
  ·obtain⟨b,o,rfl,hb,hc⟩:=HN.spot ab;obtain⟨x,hx⟩:∃x,l[k]?=some x:=⟨_,arq (by rw[BV.out];exact hlt)⟩;have hx1:=HL x (arE hx);have k1:=(awv (a:=⟨b,o+k,none⟩) (F.keep b hb (HNA b o rfl))).trans (hc k x hx);have hbc:Hid _:=agH hx1;have Xd:Hid _:=JK p hx;have x0:(0:Int)<=(x:Int):=ab;have x1:(x:Int)<4294967296:=ab;have s5:s+4<=4096:=ab;have GY:Hid (∀(o:Obj) (w2:World) (M':Value),(wr.alloc o).grownBy w2 (Value.slice va s vc).ownBlock->w2.ownsRow B 5 1 M' (s+4) (bc (wP p l k).m++[int .u8 ((x:Int)%256),int .u8 ((x:Int)/256%256),int .u8 ((x:Int)/65536%256),int .u8 ((x:Int)/16777216)])->(∀q,M'.ownBlock=some q->(Value.slice va s vc).ownBlock=some q\/(wr.alloc o).heap.size<=q)->
     w2.heap[g]?=some (.cells #[slice va s vc,slice ha p.hs.length hc0,slice pa p.ps.length pc,slice ua un uc,.bool false] 71 (0,0))/\Pr 71 B (w2.setCell ⟨g,0,none⟩ M') g M' (slice ha p.hs.length hc0) (slice pa p.ps.length pc) (slice ua un uc) (wP p l (k+1))/\Fx (Dm g (slice ma p.m.length mc) (slice ha p.hs.length hc0) (slice pa p.ps.length pc)) (Dm g M' (slice ha p.hs.length hc0) (slice pa p.ps.length pc)) w (w2.setCell ⟨g,0,none⟩ M')):=fun o w2 M' qq O hat=>by
    rw[Xd.out];obtain⟨a,b,c⟩:=Pr.agF (p:=wP p l k) (l:=w4 x) (n:=4) (HX.gr ((Gr.refl _).alloc o)) rfl rfl (by rw[HS.out];exact s5) qq (by rw[hbc.out,HS.out];exact O) hat;exact⟨a,b,(HF.gr ((Gr.refl _).alloc o)).trans c⟩
   have HBS:Hid _:=arF Ya F.size;clear X F hs hlk hc hx hb HX HF hx1;generalize bc (wP p l k).m=old at *
   go_wp2_with (at_builtin;refine fK rfl (tmp 32) (tmp 44) rfl underlying25 hi hz0 hz1 hz2 rfl an (slice va s vc) old rfl (HOW.out _) ⟨wr.heap.size,0,none⟩ 4 4 [int .u8 ((x:Int)%256),int .u8 ((x:Int)/256%256),int .u8 ((x:Int)/65536%256),int .u8 ((x:Int)/16777216)] rfl rfl (Sg (awk wr _)) (by rw[<-hbc.out];exact zu _) bj ab (by have:=HBS.out;simp at this ⊢;omega) ?_;intro v' w2 hown hgrow hat;obtain⟨_,_,a2,c2,rfl⟩:=au hown;obtain⟨hb2,X2,F2⟩:=GY.out _ _ _ hgrow hown hat;have JI:Hid _:=X2;have mP:Hid (Fx _ _ _ _):=F2;have j1:=fA hb2;have j2:w2.frozen? ⟨g,0,none⟩=false:=iA hb2;clear hown hgrow hat hb2 X2 F2);go_roundw
   case rel=>exact⟨k+1,ab,by go_num,_,JI,mP⟩
   case measure=>simp[intOf];omega
  ·have e0:k=n:=ab;subst e0;have HNM:Hid (∀(W:World) (b:Nat),Gr wr W->W.heap[b]?=some (.cells #[int i64 (s:Int)] 3 (0,0))->_):=fun W b G h=>GU (x:=s) ab h (HT ((HF.gr G).below (fun q hq=>(HDM q hq).1) Ya))
   have HE:=kH hlk;clear X F hs hlk;go_wp2_with fail;refine(HNM _ _ br (awk _ _)).mono ?_;rintro e w3 ⟨rfl,G3⟩;go_wp2_with fail;go_ret;exact bO.mk (U':=slice ua un uc) (by show Ending.returned (str (aB sU [s]))=_;rw[HE.out]) HX HF (br.trans G3)
theorem Si (X:Pr 71 B w g M H P U p)(h4:4096<p.m.length+4*l.length):Calls prog 43 #[pointer (some ⟨g,0,none⟩),slice na l.length c] w (bO 71 B w g M H P (dN p l)):=by
 have e:dN p l=({ p with fr:=false },aQ):=by
  unfold dN;rw[awn h4]
 rw[e];have m4:=X.ok.m4;obtain⟨X1,F1⟩:=X.down;obtain⟨ma,mc,ha,hc0,pa,pc,ua,un,uc,rfl,rfl,rfl,rfl,_⟩:=X.open;have z0:=fA X.blk;have f4:w.frozen? ⟨g,4,none⟩=false:=iA X.blk;have z4:=tO X.blk;have jy:=kH X1;have mO:=kH F1;generalize l.length=n at *
 go_enter func43,ntmps43;go_wp2_with fail;go_ret;exact bO.mk rfl jy mO (Gr.refl _)
end Vp
namespace Vp
open Hh Mc Ud As
theorem eG {h h'}{r}:∀x∈(⟨h',m,[],s,r⟩:Ev).out,x=Hh.rg h 10:=fun x hx=>absurd hx aq
theorem Yc (h)(l)(op a b n):∀x∈(gN h l op a b n).out,x=Hh.rg h 10:=by
 have h1:∀x∈(bJ h l op (Wd.lo (a+n))).out,x=Hh.rg h 10:=by unfold bJ;split<;>exact eG
 have h2:∀x∈(aI h l op (Wd.lo (a+n)) b).out,x=Hh.rg h 10:=by unfold aI;split<;>exact eG
 have h3:∀x∈(aN h l op a b).out,x=Hh.rg h 10:=by
  unfold aN;split
  ·unfold ik;split<;>exact eG
  ·split
   ·unfold fC;split
    ·split<;>exact eG
    ·exact eG
   ·unfold jv;split<;>exact eG
 have h4:∀x∈(bE h l).out,x=Hh.rg h 10:=by
  unfold bE;split
  ·exact eG
  ·split
   ·exact fun x hx=>arL.1 hx
   ·exact eG
 unfold gN;split
 ·exact eG
 split
 ·exact eG
 split
 ·exact eG
 split
 ·exact h1
 split
 ·exact h2
 split
 ·exact eG
 split
 ·exact eG
 split
 ·exact h3
 split
 ·exact h4
 split<;>exact eG
theorem Yd {h}(o:h.Ok)(l):∀x∈(eF h l).out,0<=x/\x<4294967296:=by
 intro x hx;have:x=Hh.rg h 10:=by
  unfold eF qz ins done at hx;split at hx
  ·split at hx
   ·cases hx
   ·exact Yc _ _ _ _ _ _ x hx
  ·cases hx
 rw[this];exact o.reg 10
structure Og (s:Sh) (t:Nat):Prop where
 few:s.out.length<=s.steps
 st:s.steps<=t
 w:∀x∈s.out,0<=x/\x<4294967296
theorem Ye {s}(f:Fit s c n)(hk:k<c)(hr:(at' s k).state=0)(o:Og s t):Og (cO s k) (t+1):=by
 have hl:k<s.hs.length:=by rw[f.len];exact hk
 have eh:s.hs[k]?=some (at' s k):=by unfold at';rw[arq hl];simp[List.getD,hl]
 obtain⟨ok,mk⟩:=f.ok _ (arE eh);have g:=mV (CE mk hr) s.m;have h1:=o.few;have h2:=o.st;have h3:=g.2.2.2.1;refine⟨?_,by show s.steps+1<=t+1;omega,fun x hx=>?_⟩
 ·show(s.out++(eF (at' s k) s.m).out).length<=s.steps+1
  rw[ary];omega
 ·rcases ar7.1 (show x∈s.out++(eF (at' s k) s.m).out from hx)with hx|hx
  ·exact o.w x hx
  ·exact Yd ok s.m x hx
theorem JL {c n k:Nat}(hk:k<c):∀(m:Nat) {s:Sh} {t:Nat},Fit s c n→Og s t→Og (runs s k m) (t+m)
 |0,s,t,f,o=>o
 |m+1,s,t,f,o=>by
  unfold runs;split
  ·have:=JL hk m (lG f hk bo) (Ye f hk bo o);rwa[show t+1+m=t+(m+1)by omega]at this
  ·exact⟨o.few,by have:=o.st;omega,o.w⟩
theorem JM {c n:Nat}:∀(sc:List (Nat×Nat)) {s:Sh} {t:Nat},(∀p∈sc,p.1<c∧p.2≤400)→Fit s c n→Og s t→Og (aP s sc) (t+400*sc.length)
 | [],s,t,_,f,o=>o
 |p::r,s,t,h,f,o=>by
  rw[jM];have hp:=h p aq;have:=JM r (fun q hq=>h q (by simp[hq])) (qP hp.1 p.2 f) (JL hp.1 p.2 f o);refine⟨this.few,arF this.st ?_,this.w⟩;simp only[arM];omega
theorem Sj {p}(o:mM p)(hw:wrong p.m p.hs p.ps=0):Og (aP (gJ p) (nums p.ps)) 120000:=by
 obtain⟨_,_,_,_,ao3,hp⟩:=lT hw;obtain⟨F,_,_⟩:=Jw o hw;have:=JM (nums p.ps) (t:=0) (fun q hq=>by
  obtain⟨r,hr,rfl⟩:=arY.1 hq;have:=hp r hr;show r.1.toNat<p.hs.length/\r.2.toNat<=400
  omega) F ⟨arA _,arA _,fun x hx=>(by cases hx)⟩
 refine⟨this.few,arF this.st ?_,this.w⟩;have:(nums p.ps).length=p.ps.length:=by unfold nums;rw[asf]
 omega
theorem l7 (m)(hs)(ps):0<=wrong m hs ps/\wrong m hs ps<=10:=by
 unfold wrong;repeat' split
 all_goals omega
end Vp
namespace Vp
open Mm Hh Hc Mc Ud As
variable{P:Value}
theorem agI (W:Wm w oa n os)(h:∀x∈os,0<=x):Ns .u32 w oa n (os.map Int.toNat):=
 ⟨by rw[asf];exact W.len,fun hn=>by
  obtain⟨b,o,e,hb,hc⟩:=W.spot hn;refine⟨b,o,e,hb,fun t x hx=>?_⟩;rw[ar3]at hx;obtain⟨y,hy,rfl⟩:=asM.1 hx;have ht:t<n:=by rw[<-W.len];exact(arw.1 hy).1
  have h0:=h y (arE hy);rw[hc t ht,ar2,hy,asi,show((y.toNat:Nat):Int)=y by omega]⟩
theorem gs3 {a1 a2 a3}{n1 n2 n3 c1 c2 c3}{L1 L2 L3}(h:w.heap[b]?=some (.cells #[slice a1 n1 c1,slice a2 n2 c2,slice a3 n3 c3] t f))(h1:Ts w a1 n1 L1/\(a1=none->c1=0))(h2:Ts w a2 n2 L2/\(a2=none->c2=0))(h3:Ts w a3 n3 L3/\(a3=none->c3=0)):Gs w b 3 [L1,L2,L3]:=
 ⟨rfl,(gs h).1,fun i L hi=>by
  match i,hi with
  |0,hi=>
   simp only[arC,awz]at hi;subst hi;exact⟨_,_,_,fA h,h1.1,h1.2⟩
  |1,hi=>
   simp only[arJ,arC,awz]at hi;subst hi;exact⟨_,_,_,eH h,h2.1,h2.2⟩
  |2,hi=>
   simp only[arJ,arC,awz]at hi;subst hi;exact⟨_,_,_,uJ h,h3.1,h3.2⟩⟩
theorem gK {a}(h:Ts w a n L/\(a=none->c=0))(G:Gr w w'):Ts w' a n L/\(a=none->c=0):=⟨h.1.of G,h.2⟩
theorem JN {c}{l}(N:Ns i64 w ao n l)(hl:∀x∈l,x<9223372036854775808)(hn:n<=1000000)(T:ig w):Calls prog 52 #[slice ao n c] w fun e w'=>∃a k,e=returned (slice a n k)/\(Ts w' a n (l.map dg)/\(a=none->k=0))/\Gr w w':=(Rx N hl hn T).mono fun e w' ⟨a,k,he,O,G⟩=>⟨a,k,he,⟨Ts.own O,nM O⟩,G⟩
theorem JO {l}(N:Ns .u32 w ao n l)(hl:∀x∈l,x<4294967296)(hn:n<=1000000)(T:ig w):Calls prog 79 #[slice ao n c] w fun e w'=>∃a k,e=returned (slice a n k)/\(Ts w' a n (l.map dg)/\(a=none->k=0))/\Gr w w':=(acL N hl hn T).mono fun e w' ⟨a,k,he,O,G⟩=>⟨a,k,he,⟨Ts.own O,nM O⟩,G⟩
theorem pz {x}(h:x<9223372036854775808):(dg x).length<=40:=by have:=rV 19 x ab;omega
theorem ZQ {k l}(S:Gs w b 3 [[Wd],k.map dg,l.map dg])(hW:Wd.length<=40)(hk:∀x∈k,x<9223372036854775808)(hl:∀x∈l,x<9223372036854775808)(hn:k.length+l.length<=500000):Calls prog 51 #[slice (some ⟨b,0,none⟩) 3 3] w fun e w'=>e=returned (str (aB Wd (k++l)))/\Gr w w':=by
 have:=j5 (c:=3) S aE ab aq (fun x hx=>by
  simp only[asQ,ata,arP,ar7,arL,arY]at hx;rcases hx with rfl|⟨y,hy,rfl⟩|⟨y,hy,rfl⟩
  ·exact hW
  ·exact pz (hk y hy)
  ·exact pz (hl y hy))
 rw[uV];simpa using this
theorem adj {v0 v1 v2 v3}(h0:e≠0)(h1:e<=100)(hv:v0.oneCell'=true/\v1.oneCell'=true/\v2.oneCell'=true/\v3.oneCell'=true)(T:∀{W},Gr w W->ig W):Calls prog 78 #[pointer (some ⟨g,0,none⟩),agg #[v0,v1,v2,v3],int i64 e] w fun e' w'=>e'=returned (str (aB qj [e]))/\Gr w w':=by
 have hE:((e:Int) !=0)=true:=by simp;omega
 have HN:Hid (∀(W:World) (b:Nat) (t:Nat) (f:Nat×Nat),Gr w W->W.heap[b]?=some (.cells #[int i64 (e:Int)] t f)->Calls prog 103 #[string ⟨#[98,97,100]⟩,slice (some ⟨b,0,none⟩) 1 1] W fun e' w'=>e'=returned (str (aB qj [e]))/\Gr W w'):=fun W b t f G h=>XY (c:=1) (qp h) (fun y hy=>by rw[arL.1 hy];omega) ab an (T G)
 obtain⟨u0,u1,u2,u3⟩:=hv;go_enter func78,ntmps78;go_wp2_with fail;refine(HN _ _ _ _ (br.alloc _) (Kc.Kq w _ _)).mono ?_;rintro e' w1 ⟨rfl,G1⟩;go_wp2_with fail;go_ret;exact⟨rfl,(br.alloc _).trans G1⟩
theorem Yf {oc st:Nat}{fr}(hb:w.heap[g]?=some (.cells #[M,H,P,U,fr] 71 (0,0)))(N:Ns .u32 w oa n l)(hx:∀b o,oa=some ⟨b,o,none⟩->0<n->b≠g)(hl:∀x∈l,x<4294967296)(hnn:n<=200000)(hst:st<=200000)(T:∀{W},Ch g w W->ig W):Calls prog 78 #[pointer (some ⟨g,0,none⟩),agg #[(slice ma mn mc),(slice ha hn hc),slice oa n oc,int i64 st],int i64 0] w fun e w'=>e=returned (str (aB lV (st::l)))/\w'.heap[g]?=some (.cells #[(slice ma mn mc),(slice ha hn hc),slice none 0 0,U,fr] 71 (0,0))/\Ch g w w':=by
 have hgl:=(gs hb).1
 -- the world behind the stores
 have HW:Hid (∀W:World,W=((((w.setCell ⟨g,0,none⟩ (slice ma mn mc)).setCell ⟨g,1,none⟩ (slice ha hn hc)).setCell ⟨g,2,none⟩ (slice none 0 0)).alloc (.cells #[(slice ma mn mc),(slice ha hn hc),slice oa n oc,int i64 st] 47))->W.heap[g]?=some (.cells #[(slice ma mn mc),(slice ha hn hc),slice none 0 0,U,fr] 71 (0,0))/\W.heap[w.heap.size]?=some (.cells #[(slice ma mn mc),(slice ha hn hc),slice oa n oc,int i64 st] 47 (0,0))/\Ch g w W/\Ns .u32 W oa n l):=by
  rintro W rfl;have e1:=hss (i:=0) (v:=(slice ma mn mc)) hb;have e2:=hss (i:=1) (v:=(slice ha hn hc)) e1;have e3:=hss (i:=2) (v:=slice none 0 0) e2;have Q:Ch g w ((((w.setCell ⟨g,0,none⟩ (slice ma mn mc)).setCell ⟨g,1,none⟩ (slice ha hn hc)).setCell ⟨g,2,none⟩ (slice none 0 0)).alloc (.cells #[(slice ma mn mc),(slice ha hn hc),slice oa n oc,int i64 st] 47)):=Ch.gr ((((Ch.refl g w).setCell 0 (slice ma mn mc)).setCell 1 (slice ha hn hc)).setCell 2 _) br;refine⟨Hr.ae br (by rw[e3];simp),?_,Q,N.len,fun h0=>?_⟩
  ·have:=awk (((w.setCell ⟨g,0,none⟩ (slice ma mn mc)).setCell ⟨g,1,none⟩ (slice ha hn hc)).setCell ⟨g,2,none⟩ (slice none 0 0)) (.cells #[(slice ma mn mc),(slice ha hn hc),slice oa n oc,int i64 st] 47);rwa[show(((w.setCell ⟨g,0,none⟩ (slice ma mn mc)).setCell ⟨g,1,none⟩ (slice ha hn hc)).setCell ⟨g,2,none⟩ (slice none 0 0)).heap.size=w.heap.size by simp]at this
  ·obtain⟨b,o,e,h1,h2⟩:=N.spot h0;exact⟨b,o,e,arD h1 Q.size,fun t x hx'=>(awv (a:=⟨b,o+t,none⟩) (Q.block b h1 (fun h=>by injection h with h;exact hx b o e h0 h))).trans (h2 t x hx')⟩
 have HTI:Hid (∀(W:World) (b t:Nat) (f:Nat×Nat),Ch g w W->W.heap[b]?=some (.cells #[int i64 (st:Int)] t f)->Calls prog 52 #[slice (some ⟨b,0,none⟩) 1 1] W fun e w'=>∃a k,e=returned (slice a 1 k)/\(Ts w' a 1 [dg st]/\(a=none->k=0))/\Gr W w'):=fun W b t f Q h=>JN (l:=[st]) (qp h) (fun y hy=>by rw[arL.1 hy];omega) ab (T Q)
 have HTW:Hid (∀(W:World),Ch g w W->Ns .u32 W oa n l->Calls prog 79 #[slice oa n oc] W fun e w'=>∃a k,e=returned (slice a n k)/\(Ts w' a n (l.map dg)/\(a=none->k=0))/\Gr W w'):=fun W Q N=>JO N hl ab (T Q)
 have hll:=N.len;have HJ:Hid (∀(W:World) (b:Nat),Gs W b 3 [[lV],[dg st],l.map dg]->Calls prog 51 #[slice (some ⟨b,0,none⟩) 3 3] W fun e w'=>e=returned (str (aB lV (st::l)))/\Gr W w'):=fun W b S=>ZQ (k:=[st]) S an (fun y hy=>by rw[arL.1 hy];omega) (fun y hy=>by have:=hl y hy;omega) aE
 have z0:=fA hb;have z1:=eH hb;have z2:=uJ hb;have f0:w.frozen? ⟨g,0,none⟩=false:=iA hb;have f1:w.frozen? ⟨g,1,none⟩=false:=iA hb;have f2:w.frozen? ⟨g,2,none⟩=false:=iA hb;have HGL:=kH hgl;have ako:g≠w.heap.size:=ab;generalize str (aB lV (st::l))=V at *
 go_enter func78,ntmps78;go_wp2_with fail;refine aK (fun W=>W.heap[g]?=some (.cells #[(slice ma mn mc),(slice ha hn hc),slice none 0 0,U,fr] 71 (0,0))/\W.heap[w.heap.size]?=some (.cells #[(slice ma mn mc),(slice ha hn hc),slice oa n oc,int i64 st] 47 (0,0))/\Ch g w W/\Ns .u32 W oa n l) (HW _ rfl) ?_;rintro w4 ⟨b1,b2,Q4,N4⟩;have HB1:=kH b1;have MV:=kH Q4;have UG:=kH N4;have y2:=uJ b2;have y3:=Ca b2;have hw4:=(gs b2).1;refine awN (S:=fun W=>Gr w4 W) al (Gr.refl w4).drew (fun hHeld=>?_);have bA:=kH hHeld;refine aK (fun W=>Gr w4 W) bA ?_;rintro w5 G5;have uh:=kH G5;refine tK 1 (pointer (some ⟨w.heap.size,3,none⟩)) uh ?_;refine aw1 (i:=2) (v:=int i64 st) rfl al al al (fun _ _ _ h=>h) (Or.inl ⟨by rfl,fun W hW=>by have y2:=(hW.cell _ (by exact hw4)).trans y2;have y3:=(hW.cell _ (by exact hw4)).trans y3;go_simp⟩) uh ?_;simp only[arx,aru,arv,Act.put,arp,art,ars];refine tK 5 (pointer (some ⟨w.heap.size,2,none⟩)) uh ?_;refine aw1 (i:=6) (v:=slice oa n oc) rfl al al al (fun _ _ _ h=>h) (Or.inl ⟨by rfl,fun W hW=>by have y2:=(hW.cell _ (by exact hw4)).trans y2;have y3:=(hW.cell _ (by exact hw4)).trans y3;go_simp⟩) uh ?_;simp only[arx,aru,arv,Act.put,arp,art,ars];refine aww (rs:=[0,3]) al aq ?_;refine awp rfl (fun K hK=>?_) (awp rfl (fun K hK=>?_) awu)
 ·skip
  go_simp;refine hK.out _ _ (uh.alloc _) (fun hx=>?_);refine aK (fun W=>W.heap[w5.heap.size]?=some (.cells #[string ⟨#[114,97,110]⟩] 9 (0,0))/\Gr w5 W) ⟨awk w5 _,(Gr.refl _).alloc _⟩ ?_;rintro w6 ⟨hb,G⟩;have uS:=kH hb;have NK:=kH G;have HS9:=kH (uh.trans G);refine aww (rs:=[3]) al aq ?_;refine awp rfl (fun K hK=>?_) awu;go_simp;refine hK.out _ _ (HS9.alloc _) (fun hx=>?_);refine aK (fun W=>W.heap[w6.heap.size]?=some (.cells #[int i64 (st:Int)] 3 (0,0))/\Gr w6 W) ⟨awk w6 _,(Gr.refl _).alloc _⟩ ?_;rintro w10 ⟨hb,G⟩;have akp:=kH hb;have agK:=kH G;have lM:=kH (HS9.trans G);refine aww (rs:=[4]) al aq ?_;refine awp rfl (fun K hK=>?_) awu;go_simp;refine(HTI _ _ _ _ (MV.gr lM) (bS (Gr.refl _) akp)).mono ?_;rintro e w14 ⟨a15,k16,rfl,ht,G⟩;have akq:=kH ht;have akr:=kH G;have Yg:=kH (lM.trans G);refine hK.out _ _ Yg (fun hx=>?_);refine aww (rs:=[7]) al aq ?_;refine awp rfl (fun K hK=>?_) awu;go_simp;refine(HTW _ (MV.gr Yg) (UG.of Yg)).mono ?_;rintro e w20 ⟨a21,k22,rfl,ht,G⟩;have akt:=kH ht;have Yh:=kH G;have Sm:=kH (Yg.trans G);refine hK.out _ _ Sm (fun hx=>?_);refine aww (rs:=[8]) al aq ?_;refine awp rfl (fun K hK=>?_) awu;go_simp;refine hK.out _ _ (Sm.alloc _) (fun hx=>?_);refine aK (fun W=>W.heap[w20.heap.size]?=some (.cells #[slice (some ⟨w5.heap.size,0,none⟩) 1 1,slice a15 1 k16,slice a21 n k22] 22 (0,0))/\Gr w20 W) ⟨awk w20 _,(Gr.refl _).alloc _⟩ ?_;rintro w26 ⟨hb,G⟩;have aku:=kH hb;have adk:=kH G;have akv:=kH (Sm.trans G);refine aww (rs:=[9]) al aq ?_;refine awp rfl (fun K hK=>?_) awu;go_simp;refine(HJ _ _ (gs3 (bS (Gr.refl _) aku) (gK ⟨qo uS,fun h=>by cases h⟩ (((agK.trans akr).trans Yh).trans adk)) (gK akq (Yh.trans adk)) (gK akt adk))).mono ?_;rintro e w30 ⟨rfl,G⟩;have ao6:=kH G;have Yi:=kH (akv.trans G);refine hK.out _ _ Yi (fun hx=>?_);refine tK 10 V Yi ?_;refine awT al ?_ _;go_wp2_with fail;go_ret;exact⟨rfl,bS Yi HB1,MV.gr Yi⟩
 ·skip
  go_simp;refine hK.out _ _ (uh.alloc _) (fun hx=>?_);refine aK (fun W=>W.heap[w5.heap.size]?=some (.cells #[int i64 (st:Int)] 3 (0,0))/\Gr w5 W) ⟨awk w5 _,(Gr.refl _).alloc _⟩ ?_;rintro w33 ⟨hb,G⟩;have agL:=kH hb;have ao7:=kH G;have Yj:=kH (uh.trans G);refine aww (rs:=[0,4]) al aq ?_;refine awp rfl (fun K hK=>?_) (awp rfl (fun K hK=>?_) awu)
  ·skip
   go_simp;refine hK.out _ _ (Yj.alloc _) (fun hx=>?_);refine aK (fun W=>W.heap[w33.heap.size]?=some (.cells #[string ⟨#[114,97,110]⟩] 9 (0,0))/\Gr w33 W) ⟨awk w33 _,(Gr.refl _).alloc _⟩ ?_;rintro w37 ⟨hb,G⟩;have akw:=kH hb;have akx:=kH G;have agM:=kH (Yj.trans G);refine aww (rs:=[4]) al aq ?_;refine awp rfl (fun K hK=>?_) awu;go_simp;refine(HTI _ _ _ _ (MV.gr agM) (bS akx agL)).mono ?_;rintro e w41 ⟨a42,k43,rfl,ht,G⟩;have aky:=kH ht;have akz:=kH G;have Yk:=kH (agM.trans G);refine hK.out _ _ Yk (fun hx=>?_);refine aww (rs:=[7]) al aq ?_;refine awp rfl (fun K hK=>?_) awu;go_simp;refine(HTW _ (MV.gr Yk) (UG.of Yk)).mono ?_;rintro e w47 ⟨a48,k49,rfl,ht,G⟩;have akB:=kH ht;have agN:=kH G;have adl:=kH (Yk.trans G);refine hK.out _ _ adl (fun hx=>?_);refine aww (rs:=[8]) al aq ?_;refine awp rfl (fun K hK=>?_) awu;go_simp;refine hK.out _ _ (adl.alloc _) (fun hx=>?_);refine aK (fun W=>W.heap[w47.heap.size]?=some (.cells #[slice (some ⟨w33.heap.size,0,none⟩) 1 1,slice a42 1 k43,slice a48 n k49] 22 (0,0))/\Gr w47 W) ⟨awk w47 _,(Gr.refl _).alloc _⟩ ?_;rintro w53 ⟨hb,G⟩;have akC:=kH hb;have adm:=kH G;have akD:=kH (adl.trans G);refine aww (rs:=[9]) al aq ?_;refine awp rfl (fun K hK=>?_) awu;go_simp;refine(HJ _ _ (gs3 (bS (Gr.refl _) akC) (gK ⟨qo akw,fun h=>by cases h⟩ ((akz.trans agN).trans adm)) (gK aky (agN.trans adm)) (gK akB adm))).mono ?_;rintro e w57 ⟨rfl,G⟩;have apa:=kH G;have Yl:=kH (akD.trans G);refine hK.out _ _ Yl (fun hx=>?_);refine tK 10 V Yl ?_;refine awT al ?_ _;go_wp2_with fail;go_ret;exact⟨rfl,bS Yl HB1,MV.gr Yl⟩
  ·skip
   go_simp;refine(HTI _ _ _ _ (MV.gr Yj) (bS (Gr.refl _) agL)).mono ?_;rintro e w60 ⟨a61,k62,rfl,ht,G⟩;have agO:=kH ht;have apb:=kH G;have MW:=kH (Yj.trans G);refine hK.out _ _ MW (fun hx=>?_);refine aww (rs:=[0,7]) al aq ?_;refine awp rfl (fun K hK=>?_) (awp rfl (fun K hK=>?_) awu)
   ·skip
    go_simp;refine hK.out _ _ (MW.alloc _) (fun hx=>?_);refine aK (fun W=>W.heap[w60.heap.size]?=some (.cells #[string ⟨#[114,97,110]⟩] 9 (0,0))/\Gr w60 W) ⟨awk w60 _,(Gr.refl _).alloc _⟩ ?_;rintro w66 ⟨hb,G⟩;have akE:=kH hb;have akF:=kH G;have adn:=kH (MW.trans G);refine aww (rs:=[7]) al aq ?_;refine awp rfl (fun K hK=>?_) awu;go_simp;refine(HTW _ (MV.gr adn) (UG.of adn)).mono ?_;rintro e w70 ⟨a71,k72,rfl,ht,G⟩;have akH:=kH ht;have agP:=kH G;have ado:=kH (adn.trans G);refine hK.out _ _ ado (fun hx=>?_);refine aww (rs:=[8]) al aq ?_;refine awp rfl (fun K hK=>?_) awu;go_simp;refine hK.out _ _ (ado.alloc _) (fun hx=>?_);refine aK (fun W=>W.heap[w70.heap.size]?=some (.cells #[slice (some ⟨w60.heap.size,0,none⟩) 1 1,slice a61 1 k62,slice a71 n k72] 22 (0,0))/\Gr w70 W) ⟨awk w70 _,(Gr.refl _).alloc _⟩ ?_;rintro w76 ⟨hb,G⟩;have akI:=kH hb;have adp:=kH G;have akJ:=kH (ado.trans G);refine aww (rs:=[9]) al aq ?_;refine awp rfl (fun K hK=>?_) awu;go_simp;refine(HJ _ _ (gs3 (bS (Gr.refl _) akI) (gK ⟨qo akE,fun h=>by cases h⟩ (agP.trans adp)) (gK agO ((akF.trans agP).trans adp)) (gK akH adp))).mono ?_;rintro e w80 ⟨rfl,G⟩;have apd:=kH G;have Ym:=kH (akJ.trans G);refine hK.out _ _ Ym (fun hx=>?_);refine tK 10 V Ym ?_;refine awT al ?_ _;go_wp2_with fail;go_ret;exact⟨rfl,bS Ym HB1,MV.gr Ym⟩
   ·skip
    go_simp;refine(HTW _ (MV.gr MW) (UG.of MW)).mono ?_;rintro e w83 ⟨a84,k85,rfl,ht,G⟩;have akK:=kH ht;have akL:=kH G;have adq:=kH (MW.trans G);refine hK.out _ _ adq (fun hx=>?_);refine aww (rs:=[0]) al aq ?_;refine awp rfl (fun K hK=>?_) awu;go_simp;refine hK.out _ _ (adq.alloc _) (fun hx=>?_);refine aK (fun W=>W.heap[w83.heap.size]?=some (.cells #[string ⟨#[114,97,110]⟩] 9 (0,0))/\Gr w83 W) ⟨awk w83 _,(Gr.refl _).alloc _⟩ ?_;rintro w89 ⟨hb,G⟩;have akN:=kH hb;have agQ:=kH G;have agR:=kH (adq.trans G);refine aww (rs:=[8]) al aq ?_;refine awp rfl (fun K hK=>?_) awu;go_simp;refine hK.out _ _ (agR.alloc _) (fun hx=>?_);refine aK (fun W=>W.heap[w89.heap.size]?=some (.cells #[slice (some ⟨w83.heap.size,0,none⟩) 1 1,slice a61 1 k62,slice a84 n k85] 22 (0,0))/\Gr w89 W) ⟨awk w89 _,(Gr.refl _).alloc _⟩ ?_;rintro w93 ⟨hb,G⟩;have akO:=kH hb;have adr:=kH G;have akP:=kH (agR.trans G);refine aww (rs:=[9]) al aq ?_;refine awp rfl (fun K hK=>?_) awu;go_simp;refine(HJ _ _ (gs3 (bS (Gr.refl _) akO) (gK ⟨qo akN,fun h=>by cases h⟩ adr) (gK agO ((akL.trans agQ).trans adr)) (gK akK (agQ.trans adr)))).mono ?_;rintro e w97 ⟨rfl,G⟩;have apf:=kH G;have Yn:=kH (akP.trans G);refine hK.out _ _ Yn (fun hx=>?_);refine tK 10 V Yn ?_;refine awT al ?_ _;go_wp2_with fail;go_ret;exact⟨rfl,bS Yn HB1,MV.gr Yn⟩
end Vp
namespace Vp
open Mm Hh Hc Mc Ud As En
variable{w w':World}{B:Nat}{M H P:Value}{p:Pl}
variable{hs:List Hv}
def Tz (B:Nat) (w:World):Prop:=(∃w0:World,w0.heap.size=B/\oZ B w0/\ig w0/\Oh w0/\Gr w0 w)/\Hc.mb<w.heap.size
theorem Tz.below (T:Tz B w)(h:Below B w w'):Tz B w':=by obtain⟨⟨w0,rfl,h1,h2,h3,G⟩,hm⟩:=T;exact⟨⟨w0,rfl,h1,h2,h3,aw2 G h⟩,arD hm h.size⟩
theorem Tz.le (T:Tz B w):B<=w.heap.size:=by obtain⟨⟨w0,rfl,h1,h2,h3,G⟩,hm⟩:=T;exact G.size
theorem Tz.gr (T:Tz B w)(G:Gr w w'):Tz B w':=T.below (awH G T.le)
theorem Tz.Bu (T:Tz B w):ig w:=by obtain⟨⟨w0,rfl,h1,h2,h3,G⟩,hm⟩:=T;exact h2.of G
theorem Tz.ers (T:Tz B w):Oh w:=by obtain⟨⟨w0,rfl,h1,h2,h3,G⟩,hm⟩:=T;exact h3.of G
theorem Tz.agS (T:Tz B w):oZ w.heap.size w:=by obtain⟨⟨w0,rfl,h1,h2,h3,G⟩,hm⟩:=T;have h:=h1.below G;have s:=G.size;exact⟨h.tt' s,h.tr,arD h.trb s,h.ts' s,h.tq,arD h.tqb s⟩
structure Ry (w:World) (K:Nat) (M H:Value) (oa:Option Addr) (S:Sh):Prop where
 mx:Mx w K M H S.m S.hs
 out:Wm w oa S.out.length S.out
theorem Ry.gr {K}{oa}{S}(R:Ry w K M H oa S)(G:Gr w w'):Ry w' K M H oa S:=⟨R.mx.of G,R.out.of G⟩
def Nb (w:World) (b:Nat):Prop:=∀i v,w.cell? ⟨b,i,none⟩=some v->∀z,v≠int .u8 z/\v≠int .u32 z
theorem ads (hs:Nb w b)(hk:∀k,k<w.heap.size->k≠b->w'.heap[k]?=w.heap[k]?)(W:Wm w oa n os):Wm w' oa n os:=⟨W.len,W.nil,fun ad e t ht=>wS hs hk (.inr rfl) (W.cell ad e t ht)⟩
theorem Ry.row {K b}{oa}{S}{o cs}{t:Nat}(R:Ry w K M H oa S)(hb:w.heap[b]?=some (.cells o t (0,0)))(t1:t≠5)(t2:t≠43)(hs:Nb w b):Ry (w.setRow b cs) K M H oa S:=⟨R.mx.to fun k q t' f ht e=>uI (by rcases ht with rfl|rfl;exact aa e hb t1.symm;exact aa e hb t2.symm),ads hs (fun k _ hk=>uI hk) R.out⟩
theorem adt {us}(R:Un w ua n us)(hs:Nb w b):Un (w.setRow b cs) ua n us:=
 R.keep (ac6 hs (fun k _ hk=>uI hk) aq R.us) fun b' o e hn=>by
  obtain⟨b2,o2,e2,hb2,hc⟩:=R.us.spot hn;rw[e]at e2;injection e2 with e2;injection e2 with e3 e4;subst e3 e4;obtain⟨u0,hu0⟩:=ac7 (l:=us) (by have:=R.us.len;omega);obtain⟨x,⟨ba,bn,bc,la,ln,lc,ex,ou,_⟩,h2⟩:=hc 0 u0 hu0;have h0:=h2 1 (int .u32 (Hh.rg u0.was 0)) (by rw[ex];exact(sZ ou.was (j:=0) ab).trans (mg ou.was ab));exact uI (Bl hs (fun k _ hk=>uI (cs:=cs) hk) (.inr rfl) h0)
theorem tF {K}(X:Mx w K M H m hs):∃ma mc ha hc,M=slice ma m.length mc/\H=slice ha hs.length hc:=by obtain⟨_,_,ma,mc,e1⟩:=au X.mem;obtain⟨_,_,ha,hc,e2⟩:=au X.hrt;exact⟨ma,mc,ha,hc,e1,e2⟩
theorem Sn (mc hc pc)(mn)(T:Tz B w)(Mm:Mem w ma mn m)(hcap:ma=none->mc=0)(H:Hs w ha hn hs)(P:Ps w pa pn ps)(hy:wrong m hs ps=0):Calls prog 10 #[agg #[slice ma mn mc,slice ha hn hc],slice pa pn pc] w fun e w'=>∃yO mc' ha' hc' oa oc ua uc,e=returned (tuple #[agg #[slice yO (aP ⟨hs,m,[],0⟩ (nums ps)).m.length mc',slice ha' (aP ⟨hs,m,[],0⟩ (nums ps)).hs.length hc',slice oa (aP ⟨hs,m,[],0⟩ (nums ps)).out.length oc,int i64 (aP ⟨hs,m,[],0⟩ (nums ps)).steps],slice ua (gM ⟨hs,m,[],0⟩ (ko ⟨hs,m,[],0⟩ (nums ps))).length uc,int i64 0])/\ Ry w' w.heap.size (slice yO (aP ⟨hs,m,[],0⟩ (nums ps)).m.length mc') (slice ha' (aP ⟨hs,m,[],0⟩ (nums ps)).hs.length hc') oa (aP ⟨hs,m,[],0⟩ (nums ps))/\Un w' ua (gM ⟨hs,m,[],0⟩ (ko ⟨hs,m,[],0⟩ (nums ps))).length (gM ⟨hs,m,[],0⟩ (ko ⟨hs,m,[],0⟩ (nums ps)))/\(gM ⟨hs,m,[],0⟩ (ko ⟨hs,m,[],0⟩ (nums ps))).length<=uc/\Gr w w':=by
 have hmb:=T.2;have tt:=T.agS.tt;have H0:Calls prog 10 #[agg #[slice ma mn mc,slice ha hn hc],slice pa pn pc] w fun e w'=>∃yO mc' ha' hc' oa oc ua uc,e=returned (tuple #[agg #[slice yO (aP ⟨hs,m,[],0⟩ (nums ps)).m.length mc',slice ha' (aP ⟨hs,m,[],0⟩ (nums ps)).hs.length hc',slice oa (aP ⟨hs,m,[],0⟩ (nums ps)).out.length oc,int i64 (aP ⟨hs,m,[],0⟩ (nums ps)).steps],slice ua (gM ⟨hs,m,[],0⟩ (ko ⟨hs,m,[],0⟩ (nums ps))).length uc,int i64 0])/\Ry w' w.heap.size (slice yO (aP ⟨hs,m,[],0⟩ (nums ps)).m.length mc') (slice ha' (aP ⟨hs,m,[],0⟩ (nums ps)).hs.length hc') oa (aP ⟨hs,m,[],0⟩ (nums ps))/\(Us w' ua (gM ⟨hs,m,[],0⟩ (ko ⟨hs,m,[],0⟩ (nums ps))).length (gM ⟨hs,m,[],0⟩ (ko ⟨hs,m,[],0⟩ (nums ps)))/\UsL w' w.heap.size ua (gM ⟨hs,m,[],0⟩ (ko ⟨hs,m,[],0⟩ (nums ps))).length)/\(gM ⟨hs,m,[],0⟩ (ko ⟨hs,m,[],0⟩ (nums ps))).length<=uc/\Gr w w':=by
  letI:Inhabited Hc.bH:=⟨⟨w.heap.size⟩⟩
  refine(RQ mc hc pc mn tt Mm hcap H P hy (arA _)).mono ?_;rintro e w' ⟨v,ua,un,uc,rfl,h1,h2,h3,G⟩;obtain⟨M',H',oa,oc,rfl,X,W⟩:=RZ h1;obtain⟨yO,mc',ha',hc',rfl,rfl⟩:=tF X;have hl:=h2.1.len;subst hl;exact⟨_,_,_,_,oa,oc,ua,uc,rfl,⟨X,W⟩,h2,h3,G⟩
 refine H0.mono ?_;rintro e w' ⟨yO,mc',ha',hc',oa,oc,ua,uc,he,R,⟨h2,h2L⟩,h3,G⟩;exact⟨yO,mc',ha',hc',oa,oc,ua,uc,he,R,⟨h2,fun b o e j hj=>by
  obtain⟨q1,q2,q3⟩:=h2L b o e j hj;refine⟨ab,fun ba bn bc hc _ ad hb=>?_,fun la ln lc hc _ ad hb=>?_⟩
  ·have h:=q2 ba bn bc hc ad hb;omega
  ·have h:=q3 la ln lc hc ad hb;omega⟩,h3,G⟩
theorem Su (mc hc pc)(mn){room}(T:Tz B w)(Mm:Mem w ma mn m)(hcap:ma=none->mc=0)(H:Hs w ha hn hs)(P:Ps w pa pn ps)(hy:wrong m hs ps=0)(r0:0<=room)(r1:room<=64):Calls prog 12 #[agg #[slice ma mn mc,slice ha hn hc],slice pa pn pc,int i64 room] w fun e w'=>∃yO mc' ha' hc' oa oc c1 c2 c3 c4 c5 c6,e=returned (tuple #[agg #[slice yO (aP ⟨hs,m,[],0⟩ (nums ps)).m.length mc',slice ha' (aP ⟨hs,m,[],0⟩ (nums ps)).hs.length hc',slice oa (aP ⟨hs,m,[],0⟩ (nums ps)).out.length oc,int i64 (aP ⟨hs,m,[],0⟩ (nums ps)).steps],agg #[int i64 c1,slice c2 c3 c4,int i64 c5,int i64 c6],int i64 0])/\ Ry w' w.heap.size (slice yO (aP ⟨hs,m,[],0⟩ (nums ps)).m.length mc') (slice ha' (aP ⟨hs,m,[],0⟩ (nums ps)).hs.length hc') oa (aP ⟨hs,m,[],0⟩ (nums ps))/\Gr w w':=by
 have tt:=T.agS
 letI:Inhabited Hc.bH:=⟨⟨w.heap.size⟩⟩
 refine(Xz mc hc pc mn room tt Mm hcap H P hy r0 r1 (arA _) w (Gr.refl _)).mono ?_;rintro e w' ⟨v,a,n,c,pu,sl,L,rfl,h1,_,G⟩;obtain⟨M',H',oa,oc,rfl,X,W⟩:=RZ h1;obtain⟨yO,mc',ha',hc',rfl,rfl⟩:=tF X;exact⟨_,_,_,_,oa,oc,_,_,_,_,_,_,rfl,⟨X,W⟩,G⟩
def Bz (p:Pl) (room:Nat):Nat:=if wrong p.m p.hs p.ps=0 then(if 64<room then 3 else 0)else(wrong p.m p.hs p.ps).toNat
end Vp
end Go.Proofs.YtiadhbmnfjfioaaGreatDoor
