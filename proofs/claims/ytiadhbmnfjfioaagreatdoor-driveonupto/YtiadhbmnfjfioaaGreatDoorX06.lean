/- ours -/
import Derived.Test.YtiadhbmnfjfioaaGreatDoorX05
import Derived.Deep.RegionHeld3
import Derived.Lib.SlMapFilter
set_option linter.unusedVariables false
set_option linter.unusedSimpArgs false
set_option maxHeartbeats 8000000
set_option maxRecDepth 100000
set_option linter.unusedSectionVars false
namespace Go.Proofs.YtiadhbmnfjfioaaGreatDoor
open Go.Proofs.Tryz hiding wide
namespace Kc
variable [Inhabited Go.Proofs.YtiadhbmnfjfioaaGreatDoor.Hc.bN]
open Go.ChangeShapes Go.WideShapes Go.ChangeAt Go.RowKit Mm Ts Hc

variable {p :Bv -> Bool} {w :World} {B n :Nat}
theorem aM {a b:Bool}(h:a=b):Ending.returned (.bool a)=Ending.returned (.bool b):=by rw[h]
def jf (p:Bv→Bool):List Bv→Nat→Int
 | [],_ => -1
 |b::bs,k=>if p b=true then(k:Int)else jf p bs (k+1)
theorem kK (pc:Int):∀(bs:List Bv) (k:Nat),jf (fun b=>decide (b.pc=pc)) bs k=place pc bs k
 | [],k=>rfl
 |b::r,k=>by
  unfold jf place;rw[kK pc r (k+1)];by_cases h:b.pc=pc<;>simp[h]
theorem jY:∀{bs:List Bv} {k:Nat},(∀(i:Nat) (x:Bv),bs[i]?=some x→p x=false)→jf p bs k = -1
 | [],k,_=>rfl
 |b::r,k,h=>by
  unfold jf;rw[at6 (by rw[h 0 b rfl];simp)];exact jY fun i x hx=>h (i+1) x (by simpa using hx)
theorem o8:∀{bs:List Bv} {j k:Nat} {x:Bv},bs[j]?=some x→p x=true→(∀(i:Nat) (y:Bv),i<j→bs[i]?=some y→p y=false)→jf p bs k=((k+j:Nat):Int)
 | [],j,k,x,h,_,_=>by simp at h
 |b::r,0,k,x,h,e,_=>by
  simp at h;subst h;unfold jf;rw[at7 e,aqt]
 |b::r,j+1,k,x,h,e,hn=>by
  unfold jf;rw[at6 (by rw[hn 0 b (by omega) rfl];simp)];have:=o8 (k:=k+1) (bs:=r) (j:=j) (by simpa using h) e fun i y hi hy=>hn (i+1) y (by omega) (by simpa using hy)
  rw[this];congr 1;omega
theorem R6 (p:Bv->Bool):∀(bs:List Bv),(jf p bs 0 = -1/\∀(i:Nat) (x:Bv),bs[i]?=some x->p x=false)\/∃(j:Nat) (x:Bv),jf p bs 0=(j:Int)/\bs[j]?=some x/\p x=true/\∀(i:Nat) (y:Bv),i<j->bs[i]?=some y->p y=false:=fun bs=>by
 by_cases h:∃(j:Nat) (x:Bv),bs[j]?=some x/\p x=true
 ·obtain⟨j,hj⟩:=h;induction j using Nat.strongRecOn with
  |ind j ih=>
   by_cases h2:∃i:Nat,i<j/\∃x:Bv,bs[i]?=some x/\p x=true
   ·obtain⟨i,hi,hx⟩:=h2;exact ih i hi hx
   ·obtain⟨x,hx,hp⟩:=hj;have ha:∀(i:Nat) (y:Bv),i<j->bs[i]?=some y->p y=false:=fun i y hi hy=>by
     cases e:p y with
     |false=>rfl
     |true=>exact absurd ⟨i,hi,y,hy,e⟩ h2
    have:=o8 (k:=0) hx hp ha;rw[apu]at this;exact .inr ⟨j,x,this,hx,hp,ha⟩
 ·have ha:∀(i:Nat) (x:Bv),bs[i]?=some x->p x=false:=fun i x hx=>by
   cases e:p x with
   |false=>rfl
   |true=>exact absurd ⟨i,x,hx,e⟩ h
  exact .inl ⟨jY ha,ha⟩
theorem FC {pc:Int}(kb:w.cell? ⟨B,0,none⟩=some (.int .u32 pc))(x:Int)(sa:Option Addr)(n c:Nat):Calls prog 163 #[.agg #[.int .u32 x,.slice sa n c],.pointer (some ⟨B,0,none⟩)] w fun e w'=>e=.returned (.bool (decide (x=pc)))/\Gr w w':=by
 have q1:∀o,(w.alloc o).cell? ⟨B,0,none⟩=some (.int .u32 pc):=fun o=>(((Gr.refl w).alloc o).cell _ (by exact aug w _ kb)).trans kb
 go_enter func163,ntmps163;go_wp2;go_ret;refine⟨aM ?_,(Gr.refl _).alloc _⟩;first|rfl|simp
theorem LF (w:World)(pc:Int):Calls prog 137 #[.int .u32 pc] w fun e w'=>∃B,e=.returned (.func (.func 163) #[] #[.pointer (some ⟨B,0,none⟩)])/\w'.cell? ⟨B,0,none⟩=some (.int .u32 pc)/\Gr w w':=by go_enter func137,ntmps137;go_wp2;go_ret;exact⟨w.heap.size,rfl,cr (at5 w _),(Gr.refl _).alloc _⟩
theorem Ac (w:World)(f t:Int):Calls prog 118 #[.agg #[.int .u32 f,.int .u32 t]] w fun e w'=>∃B,e=.returned (.func (.func 145) #[] #[.pointer (some ⟨B,0,none⟩)])/\w'.heap[B]?=some (.cells #[.int .u32 f,.int .u32 t] 175 (0,0))/\Gr w w':=by go_enter func118,ntmps118;go_wp2;go_ret;exact⟨w.heap.size,rfl,at5 w _,(Gr.refl _).alloc _⟩
theorem iRg:(prog.info? 175).map (·.size)=some 2:=by kernel_rfl
theorem Ip (w:World)(a b:Obj):((w.alloc a).alloc b).heap[w.heap.size+1]?=some b:=by have:=at5 (w.alloc a) b;simpa using this
theorem wJ (w:World){x:Int}(hx:0<=x/\x<4294967296)(sa:Option Addr)(hn:n*40<=140737488351232)(c:Nat):Calls prog 87 #[.agg #[.int .u32 x,.slice sa n c]] w fun e w'=>e=.returned (.agg #[.int .u32 x,.int .u32 (min (x+4*(n:Int)) 4294967295)])/\Gr w w':=by
 obtain⟨hx0,hx1⟩:=hx;have HX0:=kH hx0;have kL:=kH hx1;have hw1:IntKind.u64.wrap x=x:=by simp[IntKind.wrap,IntKind.signed,IntKind.bits];omega
 have hw2:IntKind.u64.wrap (n:Int)=(n:Int):=by simp[IntKind.wrap,IntKind.signed,IntKind.bits];omega
 have hw3:IntKind.u64.wrap (4*(n:Int))=4*(n:Int):=by simp[IntKind.wrap,IntKind.signed,IntKind.bits];omega
 have hw4:IntKind.u64.wrap (x+4*(n:Int))=x+4*(n:Int):=by simp[IntKind.wrap,IntKind.signed,IntKind.bits];omega
 by_cases hm:x+4*(n:Int)<=4294967295
 ·have hw5:IntKind.u32.wrap (x+4*(n:Int))=x+4*(n:Int):=by simp[IntKind.wrap,IntKind.signed,IntKind.bits];omega
  go_enter func87,ntmps87;go_wp2;rw[show min (x+4*(n:Int)) 4294967295=x+4*(n:Int)by rw[Int.min_def];split<;>omega];exact auc (v:=.agg #[.int .u32 x,.int .u32 (x+4*(n:Int))]) (auD results87 _ _ _ _ _ (0,0) _ rfl (Ip w _ _) underlying175 rfl iRg) rfl ⟨rfl,((Gr.refl _).alloc _).alloc _⟩
 ·go_enter func87,ntmps87;go_wp2;rw[show min (x+4*(n:Int)) 4294967295=4294967295 by rw[Int.min_def];split<;>omega];exact auc (v:=.agg #[.int .u32 x,.int .u32 (4294967295)]) (auD results87 _ _ _ _ _ (0,0) _ rfl (Ip w _ _) underlying175 rfl iRg) rfl ⟨rfl,((Gr.refl _).alloc _).alloc _⟩
theorem o9 {w:World}{B:Nat}{f t:Int}(k0:w.cell? ⟨B,0,none⟩=some (.int .u32 f))(k1:w.cell? ⟨B,1,none⟩=some (.int .u32 t))(ht:t<4294967296){b:Bv}(ok:b.Ok)(sa:Option Addr)(sc:Nat):Calls prog 145 #[.agg #[.int .u32 b.pc,.slice sa b.is.length sc],.pointer (some ⟨B,0,none⟩)] w fun e w'=>e=.returned (.bool (hasB b f t))/\Gr w w':=by
 have hB:=aug w _ k0;have BY:Hid (∀W:World,_):=fun W=>wJ W ok.pc sa ok.sz sc
 have HH:Hid (hasB b f t=decide (max b.pc f<min (min (b.pc+4*(b.is.length:Int)) 4294967295) t)):=by
  unfold Hid hasB;rw[decide_eq_decide];simp only[Int.max_def,Int.min_def]
  (repeat' split)<;>omega
 have Q0:Hid (∀W:World,Gr w W->W.cell? ⟨B,0,none⟩=some (.int .u32 f)/\W.cell? ⟨B,1,none⟩=some (.int .u32 t)):=fun W G=>⟨(G.cell _ (by exact hB)).trans k0,(G.cell _ (by exact hB)).trans k1⟩
 generalize min (b.pc+4*(b.is.length:Int)) 4294967295=y at *
 generalize hasB b f t=hb at *
 generalize b.pc=x at *
 generalize b.is.length=n at *
 go_enter func145,ntmps145;go_wp2_with fail;refine(BY.out _).mono ?_;rintro e w1 ⟨rfl,G1⟩;have aU:=kH (((Gr.refl _).alloc _).trans G1);have q0:∀o,(w1.alloc o).cell? ⟨B,0,none⟩=some (.int .u32 f):=fun o=>(Q0.out _ (aU.out.alloc o)).1
 have q1:∀o,(w1.alloc o).cell? ⟨B,1,none⟩=some (.int .u32 t):=fun o=>(Q0.out _ (aU.out.alloc o)).2
 go_wp2
 all_goals
  go_ret;refine⟨aM ?_,aU.out.alloc _⟩;rw[HH.out,decide_eq_decide,Int.max_def,Int.min_def];all_goals ((repeat' split)<;>omega)
theorem LG {w:World}{ao:Option Addr}{n:Nat}(cap:Nat){bs:List Bv}(R:Bq w ao n bs)(hs:n<=140737488351232)(B:Nat)(p:Bv->Bool)(WL:∀(W:World) (b:Bv) (sa:Option Addr) (sc:Nat),Gr w W->b∈bs->Calls prog 163 #[.agg #[.int .u32 b.pc,.slice sa b.is.length sc],.pointer (some ⟨B,0,none⟩)] W fun e w'=>e=.returned (.bool (p b))/\Gr W w'):Calls prog 136 #[.slice ao n cap,.func (.func 163) #[] #[.pointer (some ⟨B,0,none⟩)]] w fun e w'=>e=.returned (.int .i64 (jf p bs 0))/\Gr w w':=by
 have Cl:=kH WL;have HR:=kH R;have HN:=kH R.len;clear R WL;go_enter func136,ntmps136;go_wp2_with fail;go_loopw [8] (fun i wr=>∃j:Nat,j<=n/\i=.int .i64 j/\(∀(i:Nat) (y:Bv),i<j->bs[i]?=some y->p y=false)/\Gr w wr) (fun i _=>n-(intOf i).toNat)
 case atStart=>exact⟨0,apF _,rfl,fun i y h=>absurd h (by omega),Gr.refl _⟩
 case round=>
  obtain⟨j,hj,rfl,hno,G⟩:=hrel;have nY:=kH hno;have HG:Hid (Gr w wr):=G;clear hno G;by_cases hlt:j<n
  ·obtain⟨b,hb⟩:∃b,bs[j]?=some b:=⟨_,api (by rw[HN.out];exact hlt)⟩;obtain⟨g1,o1,rfl,l1,hc⟩:=(HR.out.of HG.out).spot (by omega);obtain⟨c0,sa,sc,c1⟩:=hc j b hb;have HY:Hid (p b=true->jf p bs 0=(j:Int)):=fun h=>by have:=o8 (k:=0) hb h nY.out;rwa[apu]at this
   have HZ:Hid (p b=false->∀(i:Nat) (y:Bv),i<j+1->bs[i]?=some y->p y=false):=fun h i y hi hy=>by
    by_cases e:i<j
    ·exact nY.out i y e hy
    ·have e2:i=j:=by omega
     subst e2;rw[hb]at hy;injection hy with hy;rw[<-hy];exact h
   have wK:Hid (∀W:World,Gr w W->Calls prog 163 #[.agg #[.int .u32 b.pc,.slice sa b.is.length sc],.pointer (some ⟨B,0,none⟩)] W fun e w'=>e=.returned (.bool (p b))/\Gr W w'):=fun W G=>Cl.out W b sa sc G (aps hb)
   generalize p b=m at *
   clear hb Cl nY HR HN hc;generalize b.pc=x at *
   generalize b.is.length=q at *
   cases m with
   |true=>
    have KJ:Hid (jf p bs 0=(j:Int)):=HY.out rfl;clear HY HZ;go_wp2_with fail;refine(wK.out _ HG.out).mono ?_;rintro e w1 ⟨rfl,G1⟩;have aU:=kH (HG.out.trans G1);go_wp2_with fail;go_ret;exact⟨by rw[KJ.out];rfl,aU.out⟩
   |false=>
    have HZ2:=kH (HZ.out rfl);clear HY HZ;go_wp2_with fail;refine(wK.out _ HG.out).mono ?_;rintro e w1 ⟨rfl,G1⟩;have aU:=kH (HG.out.trans G1);go_wp2_with fail;go_roundw
    case rel=>exact⟨j+1,by omega,by go_num,HZ2.out,aU.out⟩
    case measure=>simp[intOf];omega
  ·have ej:j=n:=by omega
   have HE:Hid (jf p bs 0 = -1):=jY fun i x hx=>nY.out i x (by rw[ej,<-HN.out];exact(apj.1 hx).1) hx
   go_wp2_with fail;go_ret;exact⟨by rw[HE.out];rfl,HG.out⟩
theorem Ad {w:World}{ao:Option Addr}{n:Nat}(cap:Nat){bs:List Bv}(R:Bq w ao n bs)(hs:n<=140737488351232)(B:Nat)(p:Bv->Bool)(WL:∀(W:World) (b:Bv) (sa:Option Addr) (sc:Nat),Gr w W->b∈bs->Calls prog 145 #[.agg #[.int .u32 b.pc,.slice sa b.is.length sc],.pointer (some ⟨B,0,none⟩)] W fun e w'=>e=.returned (.bool (p b))/\Gr W w'):Calls prog 136 #[.slice ao n cap,.func (.func 145) #[] #[.pointer (some ⟨B,0,none⟩)]] w fun e w'=>e=.returned (.int .i64 (jf p bs 0))/\Gr w w':=by
 have Cl:Hid (∀(W:World) (b:Bv) (sa:Option Addr) (sc:Nat),Gr w W->b∈bs->Calls prog 145 #[.agg #[.int .u32 b.pc,.slice sa b.is.length sc],.pointer (some ⟨B,0,none⟩)] W fun e w'=>e=.returned (.bool (p b))/\Gr W w'):=WL;have HR:Hid (Bq w ao n bs):=R;have HN:Hid (bs.length=n):=R.len;clear R WL;go_enter func136,ntmps136;go_wp2_with fail;go_loopw [8] (fun i wr=>∃j:Nat,j<=n/\i=.int .i64 j/\(∀(i:Nat) (y:Bv),i<j->bs[i]?=some y->p y=false)/\Gr w wr) (fun i _=>n-(intOf i).toNat)
 case atStart=>exact⟨0,apF _,rfl,fun i y h=>absurd h (by omega),Gr.refl _⟩
 case round=>
  obtain⟨j,hj,rfl,hno,G⟩:=hrel;have nY:Hid (∀(i:Nat) (y:Bv),i<j->bs[i]?=some y->p y=false):=hno;have HG:Hid (Gr w wr):=G;by_cases hlt:j<n
  ·obtain⟨b,hb⟩:∃b,bs[j]?=some b:=⟨_,api (by rw[HN.out];exact hlt)⟩;obtain⟨g1,o1,rfl,l1,hc⟩:=(HR.out.of HG.out).spot (by omega);obtain⟨c0,sa,sc,c1⟩:=hc j b hb;have HY:Hid (p b=true->jf p bs 0=(j:Int)):=fun h=>by have:=o8 (k:=0) hb h nY.out;rwa[apu]at this
   have HZ:Hid (p b=false->∀(i:Nat) (y:Bv),i<j+1->bs[i]?=some y->p y=false):=fun h i y hi hy=>by
    by_cases e:i<j
    ·exact nY.out i y e hy
    ·have e2:i=j:=by omega
     subst e2;rw[hb]at hy;injection hy with hy;rw[<-hy];exact h
   have wK:Hid (∀W:World,Gr w W->Calls prog 145 #[.agg #[.int .u32 b.pc,.slice sa b.is.length sc],.pointer (some ⟨B,0,none⟩)] W fun e w'=>e=.returned (.bool (p b))/\Gr W w'):=fun W G=>Cl.out W b sa sc G (aps hb)
   generalize p b=m at *
   clear hb Cl nY HR HN hc;generalize b.pc=x at *
   generalize b.is.length=q at *
   cases m with
   |true=>
    have KJ:Hid (jf p bs 0=(j:Int)):=HY.out rfl;clear HY HZ;go_wp2_with fail;refine(wK.out _ HG.out).mono ?_;rintro e w1 ⟨rfl,G1⟩;have aU:Hid (Gr w w1):=HG.out.trans G1;clear wK G1 c0 c1;go_wp2_with fail;go_ret;exact⟨by rw[KJ.out];rfl,aU.out⟩
   |false=>
    have HZ2:=kH (HZ.out rfl);go_wp2_with fail;refine(wK.out _ HG.out).mono ?_;rintro e w1 ⟨rfl,G1⟩;have aU:=kH (HG.out.trans G1);go_wp2_with fail;go_roundw
    case rel=>exact⟨j+1,by omega,by go_num,HZ2.out,aU.out⟩
    case measure=>simp[intOf];omega
  ·have ej:j=n:=by omega
   have HE:Hid (jf p bs 0 = -1):=jY fun i x hx=>nY.out i x (by rw[ej,<-HN.out];exact(apj.1 hx).1) hx
   go_wp2_with fail;go_ret;exact⟨by rw[HE.out];rfl,HG.out⟩
end Kc
namespace En
variable [Inhabited Go.Proofs.YtiadhbmnfjfioaaGreatDoor.Hc.bN]
open Go.ChangeShapes Go.WideShapes Go.ChangeAt Go.RowKit Mm Hh Hc

variable {x pc :Int} {w :World} {n :Nat} {ao :Option Addr} {bs :List Kc.Bv}
def Rh (v:Value):Option (DataW Value×List MemPlace):=some (.held v,[])
theorem kU:Maps.Keyed prog 37:=Maps.int_keyed underlying37
theorem wfU (h0:0<=x)(h1:x<4294967296):(Lit.int .u32 x).wf=true:=by simp only[Lit.wf,apD,auk];exact⟨by show(0:Int)<=x;exact h0,by show x<=4294967295;omega⟩
theorem acI (h:(Lit.int .u32 x).wf=true):0<=x/\x<4294967296:=by simp only[Lit.wf,apD,auk]at h;have h1:(0:Int)<=x:=h.1;have h2:x<=4294967295:=h.2;omega
theorem acJ (h0:0<=x)(h1:x<4294967296):keyOf prog 37 (.int .u32 x)=some (.int .u32 x):=Maps.keyOf_int_mk underlying37 (wfU h0 h1)
theorem Ae {w':World}(G:Gr w w'):w.grownBy w' none:=⟨G.os,G.tape,G.output,G.size,fun k hk _=>G.block k hk⟩
theorem LH {b:Nat}{D:DataW Value}(pd:Lit→DataW Value→Bool)(C:Nat)(hown:w.ownsMap prog 37 Rh b n D)(hdel:∀(W:World) (x:Int) (v:Value),w.grownBy W (some b)->0<=x->x<4294967296->Calls prog 120 #[.int .u32 x,v,.pointer (some ⟨C,0,none⟩)] W fun e w'=>e=.returned (.bool (pd (.int .u32 x) (.held v)))/\Gr W w'):Calls prog 119 #[.map (some b),.func (.func 120) #[] #[.pointer (some ⟨C,0,none⟩)]] w fun e w'=>e=.returned (.tuple #[])/\w'.ownsMap prog 37 Rh b n (Lib.deleteFuncD pd D)/\w.grownBy w' (some b):=by
 obtain⟨es0,rfl,hap,hkeys⟩:=hown.entries kU;have HD:=kH hdel;go_enter func119,ntmps119
 go_wp2_with (first
  |(at_range;refine wpList_range_own _ rfl _ 92 rfl 37 177 kU underlying92 Rh b n _ rfl hown ?_;intro w0 hrg0 hg0 hs0)
  |go_in)
 go_frame
 go_loopw [8] (fun _ wr=>∃(left:Lit→Bool) (cnt:Nat),wr.ranges prog 37 Rh b w.heap.size n (Maps.Fk pd es0 left) left cnt∧w.grownBy wr (some b))
  (fun _ wr=>wr.rangeLeft b w.heap.size)
 case atStart=>exact⟨_,_,by rw[Maps.Fk_start hkeys];exact hrg0,hg0.but _⟩
 case round=>
  obtain⟨left,cnt,hrg,hgw⟩:=hrel
  go_wp2_with (first
   |(at_next;refine wpList_next_ranges _ rfl _ rfl 37 kU Rh (Value.int .u32) id (fun key kl hk=>by obtain⟨x,rfl,_⟩:=Maps.keyOf_int_inv underlying37 hk;exact⟨x,rfl⟩) (fun v _ _=>⟨v,rfl⟩) b w.heap.size n _ _ _ rfl hrg ?_ ?_)
   |go_in)
  ·intro _ hl0;go_wp2;go_end0;exact⟨rfl,by rw[<-Maps.Fk_end hl0];exact hrg.owns,hgw⟩
  ·intro x c kl yd yp w1 cnt1 hkey hlx hv hat hrg1 hlt hg1 hs1 hen;obtain⟨x',ex,rfl,hwx⟩:=Maps.keyOf_int_inv underlying37 hkey;injection ex with _ ex;subst ex;have hv2:yd=.held c:=by
    have:some (DataW.held c,([]:List MemPlace))=some (yd,yp):=hv;injection this with this;injection this with this;exact this.symm
   rw[hv2]at hat;have hgw1:=hgw.andThen hg1 (fun j hj=>by cases hj;exact Or.inl (apn _));have hx:=acI hwx;have hc:=HD.out w1 x c hgw1 hx.1 hx.2;have HC:=kH hc;have hbl:=hrg1.owns.lt;have hrl:=hrg1.lt;cases hp:pd (.int .u32 x) (.held c)with
   |false=>
    have ll:Hid (Calls prog 120 #[.int .u32 x,c,.pointer (some ⟨C,0,none⟩)] w1 fun e w'=>e=.returned (.bool false)/\Gr w1 w'):=by have:=HC.out;rwa[hp]at this
    go_wp2_with fail;refine au0 ll.out ?_;rintro e w2 ⟨rfl,G2⟩;have hg2:=Ae G2;have hrg2:=hrg1.kept hg2 (by simp) (by simp);go_wp2_with fail;go_roundw
    case rel=>exact⟨_,cnt1,by rw[<-Maps.Fk_stays hap (kU.key hkey) hlx hp hat];exact hrg2,hgw1.andThen hg2 (fun j hj=>by cases hj)⟩
    case measure=>rw[hrg2.left_eq,hrg.left_eq];exact hlt
   |true=>
    have ll:Hid (Calls prog 120 #[.int .u32 x,c,.pointer (some ⟨C,0,none⟩)] w1 fun e w'=>e=.returned (.bool true)/\Gr w1 w'):=by have:=HC.out;rwa[hp]at this
    go_wp2_with fail;refine au0 ll.out ?_;rintro e w2 ⟨rfl,G2⟩;have hg2:=Ae G2;have hrg2:=hrg1.kept hg2 (by simp) (by simp)
    go_wp2_with (first
     |(at_delete;refine wpList_delete_ranges _ rfl _ _ 92 37 rfl 177 kU underlying92 Rh b w.heap.size n _ _ _ rfl hrg2 _ _ rfl hkey ?_;intro w3 cnt3 hrg3 hle hturn;go_frame)
     |go_in)
    rw[Maps.strike_twice]at hrg3;go_roundw
    case rel=>exact⟨_,cnt3,by rw[<-Maps.Fk_struck hap (kU.key hkey) hlx hp hat];exact hrg3,(hgw1.andThen hg2 (fun j hj=>by cases hj)).andThen hturn.grown (fun j hj=>by cases hj;exact Or.inr rfl)⟩
    case measure=>rw[hrg3.left_eq,hrg.left_eq];omega
theorem LJ {B:Nat}(kb:w.cell? ⟨B,0,none⟩=some (.int .u32 pc))(x:Int)(sa:Option Addr)(n c:Nat):Calls prog 146 #[.agg #[.int .u32 x,.slice sa n c],.pointer (some ⟨B,0,none⟩)] w fun e w'=>e=.returned (.bool (decide (x=pc)))/\Gr w w':=by
 have q1:∀o,(w.alloc o).cell? ⟨B,0,none⟩=some (.int .u32 pc):=fun o=>(((Gr.refl w).alloc o).cell _ (by exact aug w _ kb)).trans kb
 go_enter func146,ntmps146;go_wp2;go_ret;refine⟨Kc.aM ?_,(Gr.refl _).alloc _⟩;first|rfl|simp
theorem R7 (w:World)(pc:Int):Calls prog 122 #[.int .u32 pc] w fun e w'=>∃B,e=.returned (.func (.func 146) #[] #[.pointer (some ⟨B,0,none⟩)])/\w'.cell? ⟨B,0,none⟩=some (.int .u32 pc)/\Gr w w':=by go_enter func122,ntmps122;go_wp2;go_ret;exact⟨w.heap.size,rfl,cr (at5 w _),(Gr.refl _).alloc _⟩
theorem R8 {w:World}{ao:Option Addr}{n:Nat}(cap:Nat){bs:List Kc.Bv}(R:Kc.Bq w ao n bs)(hs:n<=140737488351232)(B:Nat)(p:Kc.Bv->Bool)(WL:∀(W:World) (b:Kc.Bv) (sa:Option Addr) (sc:Nat),Gr w W->b∈bs->Calls prog 146 #[.agg #[.int .u32 b.pc,.slice sa b.is.length sc],.pointer (some ⟨B,0,none⟩)] W fun e w'=>e=.returned (.bool (p b))/\Gr W w'):Calls prog 136 #[.slice ao n cap,.func (.func 146) #[] #[.pointer (some ⟨B,0,none⟩)]] w fun e w'=>e=.returned (.int .i64 (Kc.jf p bs 0))/\Gr w w':=by
 have Cl:=kH WL;have HR:=kH R;have HN:=kH R.len;clear R WL;go_enter func136,ntmps136;go_wp2_with fail;go_loopw [8] (fun i wr=>∃j:Nat,j<=n/\i=.int .i64 j/\(∀(i:Nat) (y:Kc.Bv),i<j->bs[i]?=some y->p y=false)/\Gr w wr) (fun i _=>n-(intOf i).toNat)
 case atStart=>exact⟨0,apF _,rfl,fun i y h=>absurd h (by omega),Gr.refl _⟩
 case round=>
  obtain⟨j,hj,rfl,hno,G⟩:=hrel;have nY:=kH hno;have HG:Hid (Gr w wr):=G;clear hno G;by_cases hlt:j<n
  ·obtain⟨b,hb⟩:∃b,bs[j]?=some b:=⟨_,api (by rw[HN.out];exact hlt)⟩;obtain⟨g1,o1,rfl,l1,hc⟩:=(HR.out.of HG.out).spot (by omega);obtain⟨c0,sa,sc,c1⟩:=hc j b hb;have HY:Hid (p b=true->Kc.jf p bs 0=(j:Int)):=fun h=>by have:=Kc.o8 (k:=0) hb h nY.out;rwa[apu]at this
   have HZ:Hid (p b=false->∀(i:Nat) (y:Kc.Bv),i<j+1->bs[i]?=some y->p y=false):=fun h i y hi hy=>by
    by_cases e:i<j
    ·exact nY.out i y e hy
    ·have e2:i=j:=by omega
     subst e2;rw[hb]at hy;injection hy with hy;rw[<-hy];exact h
   have wK:Hid (∀W:World,Gr w W->Calls prog 146 #[.agg #[.int .u32 b.pc,.slice sa b.is.length sc],.pointer (some ⟨B,0,none⟩)] W fun e w'=>e=.returned (.bool (p b))/\Gr W w'):=fun W G=>Cl.out W b sa sc G (aps hb)
   generalize p b=m at *
   clear hb Cl nY HR HN hc;generalize b.pc=x at *
   generalize b.is.length=q at *
   cases m with
   |true=>
    have KJ:Hid (Kc.jf p bs 0=(j:Int)):=HY.out rfl;clear HY HZ;go_wp2_with fail;refine(wK.out _ HG.out).mono ?_;rintro e w1 ⟨rfl,G1⟩;have aU:=kH (HG.out.trans G1);go_wp2_with fail;go_ret;exact⟨by rw[KJ.out];rfl,aU.out⟩
   |false=>
    have HZ2:=kH (HZ.out rfl);clear HY HZ;go_wp2_with fail;refine(wK.out _ HG.out).mono ?_;rintro e w1 ⟨rfl,G1⟩;have aU:=kH (HG.out.trans G1);go_wp2_with fail;go_roundw
    case rel=>exact⟨j+1,by omega,by go_num,HZ2.out,aU.out⟩
    case measure=>simp[intOf];omega
  ·have ej:j=n:=by omega
   have HE:Hid (Kc.jf p bs 0 = -1):=Kc.jY fun i x hx=>nY.out i x (by rw[ej,<-HN.out];exact(apj.1 hx).1) hx
   go_wp2_with fail;go_ret;exact⟨by rw[HE.out];rfl,HG.out⟩
theorem Iq {w:World}{ao:Option Addr}{n:Nat}(cap:Nat){bs:List Kc.Bv}(B:Kc.Bs w ao n bs)(hs:n<=140737488351232){K:Nat}{pc:Int}(hk:w.cell? ⟨K,0,none⟩=some (.int .u32 pc)):Calls prog 121 #[.slice ao n cap,.func (.func 146) #[] #[.pointer (some ⟨K,0,none⟩)]] w fun e w'=>e=.returned (.bool (decide (0<=Kc.place pc bs 0)))/\Gr w w':=by
 have X:Hid (Calls prog 136 #[.slice ao n cap,.func (.func 146) #[] #[.pointer (some ⟨K,0,none⟩)]] w fun e w'=>e=.returned (.int .i64 (Kc.place pc bs 0))/\Gr w w'):=by
  unfold Hid;rw[<-Kc.kK];exact R8 cap B.bq hs K (fun b=>decide (b.pc=pc)) fun W b sa sc G _=>LJ ((G.cell _ (by exact aug w _ hk)).trans hk) b.pc sa b.is.length sc
 generalize Kc.place pc bs 0=z at *
 go_enter func121,ntmps121;go_wp2_with fail;refine au0 X.out ?_;rintro e w1 ⟨rfl,G1⟩;have HG:=kH G1;go_wp2_with fail;go_ret;refine⟨Kc.aM ?_,HG.out⟩;first|rfl|simp
theorem LK {C g:Nat}{cap:Nat}(kc:w.cell? ⟨C,0,none⟩=some (.pointer (some ⟨g,0,none⟩)))(k5:w.cell? ⟨g,5,none⟩=some (.slice ao n cap))(B:Kc.Bs w ao n bs)(hs:n<=140737488351232)(x:Int)(v:Value):Calls prog 120 #[.int .u32 x,v,.pointer (some ⟨C,0,none⟩)] w fun e w'=>e=.returned (.bool (!decide (0<=Kc.place x bs 0)))/\Gr w w':=by
 have AT:Hid (∀W:World,_):=fun W=>R7 W x
 have CF:Hid (∀(W:World) (K:Nat),Gr w W->W.cell? ⟨K,0,none⟩=some (.int .u32 x)->_):=fun W K G hk=>Iq cap (B.of G) hs hk
 have HK5:Hid (∀W:World,Gr w W->W.cell? ⟨g,5,none⟩=some (.slice ao n cap)/\W.cell? ⟨C,0,none⟩=some (.pointer (some ⟨g,0,none⟩))):=fun W G=>⟨(G.cell _ (by exact aug w _ k5)).trans k5,(G.cell _ (by exact aug w _ kc)).trans kc⟩
 generalize decide (0<=Kc.place x bs 0)=q at *
 go_enter func120,ntmps120;go_wp2_with fail
 go_region_with (first
  |(go_at_call 122;refine(AT.out _).mono ?_;rintro e w2 ⟨K,rfl,hk,G2⟩;have HG2:Hid (Gr w w2):=Gr.trans (by repeat (first|exact Gr.refl _|refine Gr.drewN ?_ _|refine Gr.drew ?_)) G2;have x5:=(HK5.out _ HG2.out).1;have xc:=(HK5.out _ HG2.out).2;clear G2 k5 kc)
  |(go_at_call 121;refine(CF.out _ K HG2.out hk).mono ?_;rintro e w3 ⟨rfl,G3⟩;have fQ:Hid (Gr w w3):=HG2.out.trans G3;clear G3))
 all_goals
  first
   |(go_wp2_with fail;go_ret;exact⟨rfl,fQ.out⟩)
   |(go_ret;exact⟨rfl,fQ.out⟩)
end En
namespace Hh
open Mm Wd

variable {n a b op x :Int} {h :Hv} {l :List UInt8}
def W (x:Int):Prop:=0<=x/\x<4294967296
theorem W.lo (n:Int):W (lo n):=vX n
theorem W.tr (b:Bool):W (tr b):=by unfold Wd.tr W;cases b<;>simp
theorem W.hi (n:Int):W (hi n):=by unfold Wd.hi W;omega
theorem W.nat {n:Nat}(h:n<2^32):W (n:Int):=by unfold W;omega
theorem W.lt (h:W a):a.toNat<2^32:=by unfold W at h;omega
theorem W.iw (ha:W a)(hb:W b):W (iw a b):=W.nat (ari _ hb.lt)
theorem W.rW (ha:W a)(hb:W b):W (rW a b):=W.nat (arn ha.lt hb.lt)
theorem W.zX (ha:W a)(hb:W b):W (zX a b):=W.nat (Nat.xor_lt_two_pow ha.lt hb.lt)
theorem W.div (ha:W a)(hb:0<=b):W (a/b):=by
 unfold W at *
 exact⟨ary ha.1 hb,Int.lt_of_le_of_lt (Int.ediv_le_self b ha.1) ha.2⟩
theorem W.mod (hb:W b)(h:¬b=0):W (a%b):=by
 unfold W at *
 have:=Int.emod_nonneg a h;have:=Int.emod_lt_of_pos a (show 0<b by omega);omega
theorem W.ite {p:Prop}[Decidable p](ha:W a)(hb:W b):W (if p then a else b):=by split<;>assumption
theorem W.eT (ha:W a)(hb:W b):W (eT op a b):=by
 have h0:W 0:=by unfold W;omega
 have h1:W 4294967295:=by unfold W;omega
 have p:=aci b hb.1;unfold Wd.eT;refine .ite (.lo _) (.ite (.lo _) (.ite (ha.iw hb) (.ite (ha.rW hb) (.ite (ha.zX hb) (.ite (.lo _) (.ite (ha.div (by omega)) (.ite (.lo _) (.ite (.tr _) (.ite (.tr _) (.ite (.lo _) (.ite (.hi _) (.ite (.hi _) (.ite (.hi _) (.ite ?_ (.ite ?_ (.ite ?_ (.ite ?_ h0)))))))))))))))))
 ·exact .ite h1 (.lo _)
 ·exact .ite ha (.lo _)
 ·exact .ite h1 (ha.div hb.1)
 ·unfold rmu;split
  ·exact ha
  ·exact W.mod hb (by assumption)
theorem W.mO (ha:W a)(hb:W b):W (mO op a b):=by
 have h0:W 0:=by unfold W;omega
 unfold Wd.mO;exact .ite hb (.ite (.lo _) (.ite (ha.zX hb) (.ite (ha.iw hb) (.ite (ha.rW hb) (.ite (.ite ha hb) (.ite (.ite hb ha) (.ite (.ite ha hb) (.ite (.ite hb ha) h0))))))))
theorem W.aN (l:List UInt8)(op a:Int):W (aN l op a):=by
 have h0:W 0:=by unfold W;omega
 unfold Mm.aN;refine .ite ?_ h0;have h:=kI l a.toNat (mM op);have c:=E9 l a.toNat op;generalize raw l a.toNat (mM op)=x at *
 unfold wide W;repeat' split
 all_goals omega
theorem W.qD:W (qD h op a b n):=by unfold Hh.qD;refine .ite ?_ (.ite (.lo _) (.lo _));have:=vX (a+n);unfold W;omega
theorem W.reg (o:h.Ok)(i:Nat):W (rg h i):=o.reg i
theorem bG (h:bM l 13 a=true):dX l 18 a=true:=h
structure Ev.Ok (e:Ev) (l:List UInt8):Prop where
 h:e.h.Ok
 m:e.m.length=l.length
 res:W (e.res.getD 0)
 out:e.out.length<=1
 av:e.av.length<=1
theorem jZ (ok:dX l op a=true):(il l op a x).length=l.length:=by unfold il;rw[ok];exact iR _ _ _ _
theorem fD {m:List UInt8}{out:List Int}{av:List (Int×Int)}{res:Option Int}(oh:h.Ok)(om:m.length=l.length)(w:W (res.getD 0))(oo:out.length<=1)(os:av.length<=1):Ev.Ok ⟨h,m,out,av,res⟩ l:=⟨oh,om,w,oo,os⟩
theorem W.zero:W 0:=by unfold W;omega
theorem W.one:W 1:=by unfold W;omega
theorem Ir (o:h.Ok)(l:List UInt8)(op a:Int):(bF h l op a).Ok l:=by
 unfold bF;split
 ·exact fD o rfl (.aN _ _ _) (by simp) (by simp)
 ·exact fD (o.trap 3) rfl .zero (by simp) (by simp)
theorem C9 (o:h.Ok)(l:List UInt8)(op a x:Int):(aH h l op a x).Ok l:=by
 unfold aH;split
 ·exact fD o (jZ (by assumption)) .zero (by simp) (by simp)
 ·exact fD (o.trap 4) rfl .zero (by simp) (by simp)
theorem Iu (o:h.Ok)(l:List UInt8)(op a b:Int)(ha:W a):(aK h l op a b).Ok l:=by
 unfold aK;split
 ·unfold gB;split
  ·exact fD (o.hold true ha.1 ha.2) rfl (.aN _ _ _) (by simp) (by simp)
  ·exact fD (o.trap 3) rfl .zero (by simp) (by simp)
 ·split
  ·unfold eU;split
   ·split
    ·exact fD (o.hold false (x:=0) (by omega) (by omega)) (jZ (bG (by assumption))) .zero (by simp) (by simp)
    ·exact fD (o.hold false (x:=0) (by omega) (by omega)) rfl .one (by simp) (by simp)
   ·exact fD (o.trap 4) rfl .zero (by simp) (by simp)
  ·unfold iN;split
   ·exact fD o (jZ (bG (by assumption))) (.aN _ _ _) (by simp) (by simp)
   ·exact fD (o.trap 4) rfl .zero (by simp) (by simp)
theorem Iw (o:h.Ok)(l:List UInt8):(bA h l).Ok l:=by
 unfold bA;split
 ·exact fD o.halt rfl .zero (by simp) (by simp)
 ·split
  ·exact fD o rfl .zero (by simp) (by simp)
  ·exact fD (o.trap 5) rfl .zero (by simp) (by simp)
theorem Da (o:h.Ok)(l:List UInt8)(ha:W a)(hb:W b)(hn:W n):(fT h l op a b n).Ok l:=by
 unfold fT;split
 ·exact fD o rfl hn (by simp) (by simp)
 split
 ·exact fD o rfl (.lo _) (by simp) (by simp)
 split
 ·exact fD o rfl (.lo _) (by simp) (by simp)
 split
 ·exact Ir o l _ _
 split
 ·exact C9 o l _ _ _
 split
 ·exact fD o rfl (ha.eT hn) (by simp) (by simp)
 split
 ·exact fD o rfl (ha.eT hb) (by simp) (by simp)
 split
 ·exact Iu o l _ _ _ ha
 split
 ·exact Iw o l
 split
 ·exact fD (o.trap 6) rfl .zero (by simp) (by simp)
 ·exact fD o rfl .zero (by simp) (by simp)
theorem Yy (o:h.Ok)(r:Nat){x:Option Int}(w:W (x.getD 0)):(h.put r x).Ok:=by
 cases x with
 |none=>exact o
 |some x=>exact o.set r w.1 w.2
theorem acK (o:h.Ok)(w:W x):(h.on x).Ok:=by
 unfold Hv.on;split
 ·exact o.go w.1 w.2
 ·exact o
end Hh
namespace Mi
open Mm Wd Hh

structure Mv where
 op:Int
 d:Int
 a:Int
 b:Int
 n:Int
structure Rn where
 h:Hv
 m:List UInt8
 out:List Int
 n:Nat
 av:List (Int×Int)
 tm:List Int
 here:Int
 own:Bool
 over:Bool
def Rn.get (r:Rn) (k:Int):Int:=if k<32 then rg r.h k.toNat else r.tm.getD (k-32).toNat 0
def Rn.put (r:Rn) (k x:Int):Rn:=if 32<=k then { r with tm:=r.tm.set (k-32).toNat x }else { r with h:=r.h.set k.toNat x }
def Rn.stop (r:Rn) (pc:Int):Rn:={ r with h:=r.h.go pc,over:=true }
def Rn.trap (r:Rn) (c:Int):Rn:={ r with h:=(r.h.trap c).go r.here,over:=true }
def hits (bf bt p:Int):Nat→Bool
 |0=>false
 |k+1=>hits bf bt p k ||decide (bf<=lo (p+k)/\lo (p+k)<bt)
def Rn.stored (r:Rn) (bf bt:Int) (p:Int) (many:Nat):Rn:={ r with av:=r.av++[(p,(many:Int))],own:=r.own ||hits bf bt p many }
def Af (r:Rn) (op p d:Int):Rn:=if bM r.m op p=true then r.put d (aN r.m op p)else r.trap 3
def tV (bf bt:Int) (r:Rn) (op p x:Int):Rn:=if dX r.m op p=true then { r with m:=il r.m op p x }.stored bf bt p (gG op)else r.trap 4
def mLr (r:Rn) (a d:Int):Rn:=if bM r.m 13 a=true then { r with h:=r.h.hold true a }.put d (aN r.m 13 a)else r.trap 3
def mSc (bf bt:Int) (r:Rn) (a b d:Int):Rn:=if bM r.m 13 a=true then(if r.h.held=true/\r.h.aP=a then({ r with h:=r.h.hold false 0,m:=il r.m 18 a b }.stored bf bt a 4).put d 0 else { r with h:=r.h.hold false 0 }.put d 1)else r.trap 4
def LM (bf bt:Int) (r:Rn) (op a b d:Int):Rn:=if bM r.m 13 a=true then({ r with m:=il r.m 18 a (mO op (aN r.m 13 a) b) }.stored bf bt a 4).put d (aN r.m 13 a)else r.trap 4
def Ag (bf bt:Int) (r:Rn) (op a b d:Int):Rn:=if op=46 then mLr r a d else if op=47 then mSc bf bt r a b d else LM bf bt r op a b d
def tX (r:Rn):Rn:=if rg r.h 17=0 then { r with h:=r.h.halt.go r.here,over:=true }else if rg r.h 17=1 then { r with out:=r.out++[rg r.h 10] }else r.trap 5
def Iy (steps:Int) (r:Rn) (n:Int):Rn:=if(r.n:Int)=steps\/r.own=true then r.stop n else { r with n:=r.n+1,here:=n }
def vH (bf bt:Int) (r:Rn) (c op:Int) (i:Mv):Rn:=
 if c=100 then(if holds op (r.get i.a) (r.get i.b)=true then r.stop i.n else r)
 else if c=200 then Af r op (lo (r.get i.a+i.n)) i.d
 else if c=300 then tV bf bt r op (lo (r.get i.a+i.n)) (r.get i.b)
 else if c=400 then r.put i.d (eT op (r.get i.a) (r.get i.b))
 else if c=500 then r.put i.d (eT op (r.get i.a) i.n)
 else if c=600 then Ag bf bt r op (r.get i.a) (r.get i.b) i.d else r
def ja (bf bt steps:Int) (r:Rn) (i:Mv):Rn:=
 if i.op=1 then Iy steps r i.n else if i.op=2 then r.put i.d i.n else if i.op=3 then r.stop i.n
 else if i.op=4 then r.stop (lo (r.get i.a+i.n)-lo (r.get i.a+i.n)%2)else if i.op=5 then tX r else if i.op=6 then r.trap 6
 else vH bf bt r (i.op-i.op%100) (i.op%100) i
def named (op:Int):Int:=
 if op=1\/op=3 then 8 else if op=2 then 9 else if op=4 then 10 else if op=5\/op=6 then 0
 else if 105<=op/\op<=110 then 14 else if 211<=op/\op<=215 then 11 else if 316<=op/\op<=318 then 14
 else if 428<=op/\op<=445 then 7 else if 528<=op/\op<=545 then 11 else if 646<=op/\op<=656 then 7 else -1
def bR (has:Bool) (k:Int):Bool:=decide ((has=true\/k=0)/\0<=k/\k<36)
def dZ (i:Mv):Bool:=decide (0<=named i.op) && (decide (8<=named i.op\/i.n=0) && (bR (decide (named i.op%2=1)) i.d && (bR (decide (named i.op/2%2=1)) i.a && bR (decide (named i.op/4%2=1)) i.b)))
def nZ (code:List Mv):Bool:=decide (code.length<=200) && code.all dZ
def bB (bf bt steps:Int) (r:Rn):List Mv→Rn
 | []=>r
 |i::is=>if r.over=true then r else bB bf bt steps (ja bf bt steps r i) is
def mend (r:Rn):Rn:=if r.over=false/\0<r.n then { r with h:=r.h.go (lo (r.here+4)) }else r
def mstart (h:Hv) (l:List UInt8):Rn:=⟨h,l,[],0,[],[0,0,0,0],h.pc,false,false⟩
def dC (bf bt steps:Int) (h:Hv) (l:List UInt8) (code:List Mv):Rn:=mend (bB bf bt steps (mstart h l) code)
structure Rn.Ok (r:Rn):Prop where
 h:r.h.Ok
 tl:r.tm.length=4
 tb:∀j,0<=r.tm.getD j 0/\r.tm.getD j 0<4294967296
 h0:0<=r.here
 h1:r.here<4294967296
theorem Rn.Ok.get {r:Rn}(o:r.Ok)(k:Int):W (r.get k):=by
 unfold Rn.get;split
 ·exact o.h.reg _
 ·exact o.tb _
theorem LP (l:List Int)(k j:Nat)(x:Int):(l.set k x).getD j 0=if j=k/\k<l.length then x else l.getD j 0:=by
 simp only[List.getD,ap1];by_cases e:k=j
 ·subst e;by_cases h:k<l.length
  ·simp[h]
  ·simp[h]
 ·have e2:¬j=k:=fun q=>e q.symm
  simp[e,e2]
theorem Rn.Ok.put {r:Rn}(o:r.Ok)(k:Int){x:Int}(hx:W x):(r.put k x).Ok:=by
 unfold Rn.put;split
 ·refine⟨o.h,by simp[o.tl],fun j=>?_,o.h0,o.h1⟩;show 0<=(r.tm.set _ x).getD j 0/\_
  rw[LP];split
  ·exact hx
  ·exact o.tb j
 ·exact⟨o.h.set _ hx.1 hx.2,o.tl,o.tb,o.h0,o.h1⟩
theorem Rn.Ok.stop {r:Rn}(o:r.Ok){x:Int}(hx:W x):(r.stop x).Ok:=⟨o.h.go hx.1 hx.2,o.tl,o.tb,o.h0,o.h1⟩
theorem Rn.Ok.trap {r:Rn}(o:r.Ok)(c:Int):(r.trap c).Ok:=⟨(o.h.trap c).go o.h0 o.h1,o.tl,o.tb,o.h0,o.h1⟩
theorem Rn.Ok.hart {r:Rn}(o:r.Ok){h:Hv}(q:h.Ok):Rn.Ok { r with h:=h }:=⟨q,o.tl,o.tb,o.h0,o.h1⟩
theorem Rn.Ok.mem {r:Rn}(o:r.Ok)(m:List UInt8):Rn.Ok { r with m:=m }:=⟨o.h,o.tl,o.tb,o.h0,o.h1⟩
theorem Rn.Ok.stored {r:Rn}(o:r.Ok)(bf bt p:Int)(k:Nat):(r.stored bf bt p k).Ok:=⟨o.h,o.tl,o.tb,o.h0,o.h1⟩
end Mi
namespace Ts
open Mm Hh Mi

def vI (bY last:Int) (p:Int×Int):Bool:=decide (p.1<last/\bY<Wd.lo (p.1+p.2))
def b1 (r:Rn):Rn:={ r with h:=(dV r.h r.m).h,m:=(dV r.h r.m).m,out:=r.out++(dV r.h r.m).out,n:=r.n+1,av:=r.av++(dV r.h r.m).av }
def wL (bY last:Int) (k:Nat) (S:Sv):Bool:=decide (¬S.h.state=0) ||(decide (¬S.h.pc=Wd.lo (bY+(4*k+4))) ||S.av.any (vI bY last))
def FD (bY last steps:Int):Nat→Nat→Rn→Rn
 |0,_,r=>r
 |f+1,k,r=>if(r.n:Int)<steps then(if wL bY last k (dV r.h r.m)=true then b1 r else FD bY last steps f (k+1) (b1 r))else r
end Ts
namespace Mi
open Mm Wd Hh

variable {r :Rn} {code :List Mv} {j :Nat} {i :Mv}
theorem eY (bf bt steps:Int)(h:r.over=true):∀l,bB bf bt steps r l=r
 | []=>rfl
 |i::is=>by unfold bB;rw[at7 h]
theorem fJ (bf bt steps:Int):∀(l k:List Mv) (r:Rn),bB bf bt steps r (l++k)=bB bf bt steps (bB bf bt steps r l) k
 | [],k,r=>rfl
 |i::is,k,r=>by
  by_cases h:r.over=true
  ·rw[eY _ _ _ h,eY _ _ _ h,eY _ _ _ h]
  ·rw[apZ,bB,at6 h,fJ bf bt steps is k,bB,at6 h]
theorem qG (bf bt steps:Int)(hi:code[j]?=some i)(ho:(bB bf bt steps r (code.take j)).over=false):bB bf bt steps r (code.take (j+1))=ja bf bt steps (bB bf bt steps r (code.take j)) i:=by
 rw[apU,hi,fJ];show bB bf bt steps _ [i]=_
 rw[bB,at6 (by simp[ho]),bB]
theorem Iz (bf bt steps:Int)(ho:(bB bf bt steps r (code.take j)).over=true):bB bf bt steps r code=bB bf bt steps r (code.take j):=by have e:=fJ bf bt steps (code.take j) (code.drop j) r;rw[aqd]at e;rw[e,eY _ _ _ ho]
structure Bd (r r':Rn):Prop where
 m:r'.m.length=r.m.length
 av:r'.av.length<=r.av.length+1
 out:r'.out.length<=r.out.length+1
 n:r'.n<=r.n+1
theorem Bd.refl (r:Rn):Bd r r:=⟨rfl,by omega,by omega,by omega⟩
theorem lF {r':Rn}(h:Bd r r')(k x:Int):Bd r (r'.put k x):=by
 unfold Rn.put;split
 ·exact⟨h.m,h.av,h.out,h.n⟩
 ·exact⟨h.m,h.av,h.out,h.n⟩
theorem fH {l:List UInt8}{op a x:Int}(h:dX l op a=true):(il l op a x).length=l.length:=by unfold il;rw[at7 h,iR]
theorem kM (r:Rn)(c:Int):Bd r (r.trap c):=⟨rfl,by simp[Rn.trap],by simp[Rn.trap],by simp[Rn.trap]⟩
theorem sH (r:Rn)(c:Int):Bd r (r.stop c):=⟨rfl,by simp[Rn.stop],by simp[Rn.stop],by simp[Rn.stop]⟩
theorem qH {h:Hv}{m:List UInt8}(hm:m.length=r.m.length)(bf bt p:Int)(k:Nat):Bd r ({ r with h:=h,m:=m }.stored bf bt p k):=⟨hm,by simp[Rn.stored],by simp[Rn.stored],by simp[Rn.stored]⟩
theorem FE (r:Rn)(h:Hv):Bd r { r with h:=h }:=⟨rfl,by simp,by simp,by simp⟩
theorem Yz (bf bt:Int)(r:Rn)(c op:Int)(i:Mv):Bd r (vH bf bt r c op i):=by
 unfold vH;split
 ·split
  ·exact sH r _
  ·exact Bd.refl r
 split
 ·unfold Af;split
  ·exact lF (Bd.refl r) _ _
  ·exact kM r _
 split
 ·unfold tV;split
  ·rename_i h;exact qH (h:=r.h) (fH h) _ _ _ _
  ·exact kM r _
 split
 ·exact lF (Bd.refl r) _ _
 split
 ·exact lF (Bd.refl r) _ _
 split
 ·unfold Ag;split
  ·unfold mLr;split
   ·exact lF (FE r _) _ _
   ·exact kM r _
  split
  ·unfold mSc;split
   ·rename_i h;split
    ·exact lF (qH (fH (bG h)) _ _ _ _) _ _
    ·exact lF (FE r _) _ _
   ·exact kM r _
  ·unfold LM;split
   ·rename_i h;exact lF (qH (h:=r.h) (fH (bG h)) _ _ _ _) _ _
   ·exact kM r _
 ·exact Bd.refl r
theorem YA (bf bt steps:Int)(r:Rn)(i:Mv):Bd r (ja bf bt steps r i):=by
 unfold ja;split
 ·unfold Iy;split
  ·exact sH r _
  ·exact⟨rfl,by simp,by simp,by simp⟩
 split
 ·exact lF (Bd.refl r) _ _
 split
 ·exact sH r _
 split
 ·exact sH r _
 split
 ·unfold tX;split
  ·exact⟨rfl,by simp,by simp,by simp⟩
  split
  ·exact⟨rfl,by simp,by simp,by simp⟩
  ·exact kM r _
 split
 ·exact kM r _
 ·exact Yz bf bt r _ _ i
theorem FH (bf bt steps:Int)(r:Rn)(code:List Mv):∀j,(bB bf bt steps r (code.take j)).m.length=r.m.length∧(bB bf bt steps r (code.take j)).av.length≤r.av.length+j∧(bB bf bt steps r (code.take j)).out.length≤r.out.length+j∧(bB bf bt steps r (code.take j)).n≤r.n+j
 |0=>⟨rfl,by simp[bB],by simp[bB],by simp[bB]⟩
 |j+1=>by
  obtain⟨h1,h2,h3,h4⟩:=FH bf bt steps r code j;cases hi:code[j]? with
  |none=>
   have e:code.take (j+1)=code.take j:=by rw[apU,hi];simp
   rw[e];exact⟨h1,by omega,by omega,by omega⟩
  |some i=>
   cases ho:(bB bf bt steps r (code.take j)).over with
   |false=>
    rw[qG bf bt steps hi ho];have b:=YA bf bt steps (bB bf bt steps r (code.take j)) i;have b2:=b.av;have b3:=b.out;have b4:=b.n;exact⟨b.m.trans h1,by omega,by omega,by omega⟩
   |true=>
    have e:bB bf bt steps r (code.take (j+1))=bB bf bt steps r (code.take j):=by
     rw[apU,hi,fJ,eY _ _ _ ho]
    rw[e];exact⟨h1,by omega,by omega,by omega⟩
theorem Ah (h:dZ i=true):0<=named i.op/\(0<=i.d/\i.d<36)/\(0<=i.a/\i.a<36)/\0<=i.b/\i.b<36:=by unfold dZ bR at h;simp only[apD,auk]at h;obtain⟨h1,_,⟨_,h2⟩,⟨_,h3⟩,⟨_,h4⟩⟩:=h;exact⟨h1,h2,h3,h4⟩
end Mi
end Go.Proofs.YtiadhbmnfjfioaaGreatDoor
