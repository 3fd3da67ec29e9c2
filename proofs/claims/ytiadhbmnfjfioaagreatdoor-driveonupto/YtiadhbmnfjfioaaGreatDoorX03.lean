/- ours -/
import Derived.Test.YtiadhbmnfjfioaaGreatDoorX02
import Derived.Lib.SlMapFilter
set_option linter.unusedVariables false
set_option linter.unusedSimpArgs false
set_option maxHeartbeats 8000000
set_option maxRecDepth 100000
set_option linter.unusedSectionVars false
namespace Go.Proofs.YtiadhbmnfjfioaaGreatDoor
open Go.Proofs.Tryz hiding cs wide
open Go.ChangeShapes Go.WideShapes Go.ChangeAt Go.RowKit
variable{b op a x c nx p bf bt steps rd r1 r2 im k pc t:Int}{av s:List (Int×Int)}{out o:List Int}{m l:List UInt8}{B K cap n:Nat}{res r:Option Int}{P:Prop}{w':World}
namespace En
variable[Inhabited Hc.bN]
open Mm Hh Hc
variable{w:World}{ao:Option Addr}{bs:List Kc.Bv}
def Rh (v:Value):Option (DataW Value×List MemPlace):=some (.held v,[])
theorem kU:Maps.Keyed prog 37:=Maps.int_keyed underlying37
theorem wfU (h0:0<=x)(h1:x<4294967296):(Lit.int .u32 x).wf=true:=by simp only[Lit.wf,apD,auk];exact⟨by show(0:Int)<=x;exact h0,by show x<=4294967295;omega⟩
theorem acM (h:(Lit.int .u32 x).wf=true):0<=x/\x<4294967296:=by simp only[Lit.wf,apD,auk]at h;have h1:(0:Int)<=x:=h.1;have h2:x<=4294967295:=h.2;omega
theorem acN (h0:0<=x)(h1:x<4294967296):keyOf prog 37 (.int .u32 x)=some (.int .u32 x):=Maps.keyOf_int_mk underlying37 (wfU h0 h1)
theorem Af (G:Gr w w'):w.grownBy w' none:=⟨G.os,G.tape,G.output,G.size,fun k hk _=>G.block k hk⟩
theorem LJ {b:Nat}{D:DataW Value}(pd:Lit→DataW Value→Bool)(C:Nat)(hown:w.ownsMap prog 37 Rh b n D)(hdel:∀(W:World) (x:Int) (v:Value),w.grownBy W (some b)->0<=x->x<4294967296->Calls prog 120 #[.int .u32 x,v,.pointer (some ⟨C,0,none⟩)] W fun e w'=>e=.returned (.bool (pd (.int .u32 x) (.held v)))/\Gr W w'):Calls prog 119 #[.map (some b),.func (.func 120) #[] #[.pointer (some ⟨C,0,none⟩)]] w fun e w'=>e=.returned (.tuple #[])/\w'.ownsMap prog 37 Rh b n (Lib.deleteFuncD pd D)/\w.grownBy w' (some b):=by
 obtain⟨es0,rfl,hap,hkeys⟩:=hown.entries kU;have HD:=kH hdel;go_enter func119,ntmps119
 go_wp2_with (first
  |(at_range;refine wpList_range_own _ rfl _ 92 rfl 37 177 kU underlying92 Rh b n _ rfl hown ?_;intro w0 hrg0 hg0 hs0)
  |go_in)
 go_frame
 go_loopw [8] (fun _ wr=>∃(left:Lit→Bool) (cnt:Nat),wr.ranges prog 37 Rh b w.heap.size n (Maps.Fk pd es0 left) left cnt∧w.grownBy wr (some b))
  (fun _ wr=>wr.rangeLeft b w.heap.size)
 case atStart=>exact⟨_,_,by rw[Maps.Fk_start hkeys];exact hrg0,hg0.but _⟩
 case round=>
  obtain⟨left,cnt,hrg,hgw⟩:=hrel
  go_wp2_with (first
   |(at_next;refine wpList_next_ranges _ rfl _ rfl 37 kU Rh (Value.int .u32) id (fun key kl hk=>by obtain⟨x,rfl,_⟩:=Maps.keyOf_int_inv underlying37 hk;exact⟨x,rfl⟩) (fun v _ _=>⟨v,rfl⟩) b w.heap.size n _ _ _ rfl hrg ?_ ?_)
   |go_in)
  ·intro _ hl0;go_wp2;go_end0;exact⟨rfl,by rw[<-Maps.Fk_end hl0];exact hrg.owns,hgw⟩
  ·intro x c kl yd yp w1 cnt1 hkey hlx hv hat hrg1 hlt hg1 hs1 hen;obtain⟨x',ex,rfl,hwx⟩:=Maps.keyOf_int_inv underlying37 hkey;injection ex with _ ex;subst ex;have hv2:yd=.held c:=by
    have:some (DataW.held c,([]:List MemPlace))=some (yd,yp):=hv;injection this with this;injection this with this;exact this.symm
   rw[hv2]at hat;have hgw1:=hgw.andThen hg1 (fun j hj=>by cases hj;exact Or.inl (apn _));have hx:=acM hwx;have hc:=HD w1 x c hgw1 hx.1 hx.2;have HC:=kH hc;have hbl:=hrg1.owns.lt;have hrl:=hrg1.lt;cases hp:pd (.int .u32 x) (.held c)with
   |false=>
    have ll:Hid (Calls prog 120 #[.int .u32 x,c,.pointer (some ⟨C,0,none⟩)] w1 fun e w'=>e=.returned (.bool false)/\Gr w1 w'):=by have:=HC;rwa[hp]at this
    go_wp2_with fail;refine au0 ll ?_;rintro e w2 ⟨rfl,G2⟩;have hg2:=Af G2;have hrg2:=hrg1.kept hg2 aq aq;go_wp2_with fail;go_roundw
    case rel=>exact⟨_,cnt1,by rw[<-Maps.Fk_stays hap (kU.key hkey) hlx hp hat];exact hrg2,hgw1.andThen hg2 (fun j hj=>by cases hj)⟩
    case measure=>rw[hrg2.left_eq,hrg.left_eq];exact hlt
   |true=>
    have ll:Hid (Calls prog 120 #[.int .u32 x,c,.pointer (some ⟨C,0,none⟩)] w1 fun e w'=>e=.returned (.bool true)/\Gr w1 w'):=by have:=HC;rwa[hp]at this
    go_wp2_with fail;refine au0 ll ?_;rintro e w2 ⟨rfl,G2⟩;have hg2:=Af G2;have hrg2:=hrg1.kept hg2 aq aq
    go_wp2_with (first
     |(at_delete;refine wpList_delete_ranges _ rfl _ _ 92 37 rfl 177 kU underlying92 Rh b w.heap.size n _ _ _ rfl hrg2 _ _ rfl hkey ?_;intro w3 cnt3 hrg3 hle hturn;go_frame)
     |go_in)
    rw[Maps.strike_twice]at hrg3;go_roundw
    case rel=>exact⟨_,cnt3,by rw[<-Maps.Fk_struck hap (kU.key hkey) hlx hp hat];exact hrg3,(hgw1.andThen hg2 (fun j hj=>by cases hj)).andThen hturn.grown (fun j hj=>by cases hj;exact Or.inr rfl)⟩
    case measure=>rw[hrg3.left_eq,hrg.left_eq];omega
theorem LK (kb:w.cell? ⟨B,0,none⟩=some (.int .u32 pc))(x:Int)(sa:Option Addr)(n c:Nat):Calls prog 146 #[.agg #[.int .u32 x,.slice sa n c],.pointer (some ⟨B,0,none⟩)] w fun e w'=>e=.returned (.bool (decide (x=pc)))/\Gr w w':=by
 have q1:∀o,(w.alloc o).cell? ⟨B,0,none⟩=some (.int .u32 pc):=fun o=>(((Gr.refl w).alloc o).cell _ (by exact aug w _ kb)).trans kb
 go_enter func146,ntmps146;go_wp2;go_ret;refine⟨Kc.aM ?_,(Gr.refl _).alloc _⟩;first|rfl|simp
theorem R9 (w:World)(pc:Int):Calls prog 122 #[.int .u32 pc] w fun e w'=>∃B,e=.returned (.func (.func 146) #[] #[.pointer (some ⟨B,0,none⟩)])/\w'.cell? ⟨B,0,none⟩=some (.int .u32 pc)/\Gr w w':=by go_enter func122,ntmps122;go_wp2;go_ret;exact⟨w.heap.size,rfl,cr (at5 w _),(Gr.refl _).alloc _⟩
theorem Sa (cap:Nat){bs:List Kc.Bv}(R:Kc.Bq w ao n bs)(hs:n<=140737488351232)(B:Nat)(p:Kc.Bv->Bool)(WN:∀(W:World) (b:Kc.Bv) (sa:Option Addr) (sc:Nat),Gr w W->b∈bs->Calls prog 146 #[.agg #[.int .u32 b.pc,.slice sa b.is.length sc],.pointer (some ⟨B,0,none⟩)] W fun e w'=>e=.returned (.bool (p b))/\Gr W w'):Calls prog 136 #[.slice ao n cap,.func (.func 146) #[] #[.pointer (some ⟨B,0,none⟩)]] w fun e w'=>e=.returned (.int .i64 (Kc.jf p bs 0))/\Gr w w':=by
 have Cl:=kH WN;have HR:=kH R;have HN:=kH R.len;clear R WN;go_enter func136,ntmps136;go_wp2_with fail;go_loopw [8] (fun i wr=>∃j:Nat,j<=n/\i=.int .i64 j/\(∀(i:Nat) (y:Kc.Bv),i<j->bs[i]?=some y->p y=false)/\Gr w wr) (fun i _=>n-(intOf i).toNat)
 case atStart=>exact⟨0,apF _,rfl,fun i y h=>absurd h ab,Gr.refl _⟩
 case round=>
  obtain⟨j,hj,rfl,hno,G⟩:=hrel;have nY:=kH hno;have HG:Hid (Gr w wr):=G;clear hno G;by_cases hlt:j<n
  ·obtain⟨b,hb⟩:∃b,bs[j]?=some b:=⟨_,api (by rw[HN.out];exact hlt)⟩;obtain⟨g1,o1,rfl,l1,hc⟩:=(HR.of HG).spot ab;obtain⟨c0,sa,sc,c1⟩:=hc j b hb;have HY:Hid (p b=true->Kc.jf p bs 0=(j:Int)):=fun h=>by have:=Kc.o8 (k:=0) hb h nY;rwa[apu]at this
   have HZ:Hid (p b=false->∀(i:Nat) (y:Kc.Bv),i<j+1->bs[i]?=some y->p y=false):=fun h i y hi hy=>by
    by_cases e:i<j
    ·exact nY i y e hy
    ·have e2:i=j:=ab;subst e2;rw[hb]at hy;injection hy with hy;rw[<-hy];exact h
   have wJ:Hid (∀W:World,Gr w W->Calls prog 146 #[.agg #[.int .u32 b.pc,.slice sa b.is.length sc],.pointer (some ⟨B,0,none⟩)] W fun e w'=>e=.returned (.bool (p b))/\Gr W w'):=fun W G=>Cl W b sa sc G (aps hb)
   generalize p b=m at *
   clear hb Cl nY HR HN hc;generalize b.pc=x at *
   generalize b.is.length=q at *
   cases m with
   |true=>
    have KN:Hid (Kc.jf p bs 0=(j:Int)):=HY rfl;clear HY HZ;go_wp2_with fail;refine(wJ _ HG).mono ?_;rintro e w1 ⟨rfl,G1⟩;have aU:=kH (HG.trans G1);go_wp2_with fail;go_ret;exact⟨by rw[KN.out];rfl,aU⟩
   |false=>
    have HZ2:=kH (HZ rfl);clear HY HZ;go_wp2_with fail;refine(wJ _ HG).mono ?_;rintro e w1 ⟨rfl,G1⟩;have aU:=kH (HG.trans G1);go_wp2_with fail;go_roundw
    case rel=>exact⟨j+1,ab,by go_num,HZ2,aU⟩
    case measure=>simp[intOf];omega
  ·have ej:j=n:=ab;have HE:Hid (Kc.jf p bs 0 = -1):=Kc.jY fun i x hx=>nY i x (by rw[ej,<-HN.out];exact(apj.1 hx).1) hx
   go_wp2_with fail;go_ret;exact⟨by rw[HE.out];rfl,HG⟩
theorem Ir (cap:Nat){bs:List Kc.Bv}(B:Kc.Bs w ao n bs)(hs:n<=140737488351232)(hk:w.cell? ⟨K,0,none⟩=some (.int .u32 pc)):Calls prog 121 #[.slice ao n cap,.func (.func 146) #[] #[.pointer (some ⟨K,0,none⟩)]] w fun e w'=>e=.returned (.bool (decide (0<=Kc.place pc bs 0)))/\Gr w w':=by
 have X:Hid (Calls prog 136 #[.slice ao n cap,.func (.func 146) #[] #[.pointer (some ⟨K,0,none⟩)]] w fun e w'=>e=.returned (.int .i64 (Kc.place pc bs 0))/\Gr w w'):=by
  unfold Hid;rw[<-Kc.kK];exact Sa cap B.bq hs K (fun b=>decide (b.pc=pc)) fun W b sa sc G _=>LK ((G.cell _ (by exact aug w _ hk)).trans hk) b.pc sa b.is.length sc
 generalize Kc.place pc bs 0=z at *
 go_enter func121,ntmps121;go_wp2_with fail;refine au0 X ?_;rintro e w1 ⟨rfl,G1⟩;have HG:=kH G1;go_wp2_with fail;go_ret;refine⟨Kc.aM ?_,HG⟩;first|rfl|simp
theorem LM {C g:Nat}(kc:w.cell? ⟨C,0,none⟩=some (.pointer (some ⟨g,0,none⟩)))(k5:w.cell? ⟨g,5,none⟩=some (.slice ao n cap))(B:Kc.Bs w ao n bs)(hs:n<=140737488351232)(x:Int)(v:Value):Calls prog 120 #[.int .u32 x,v,.pointer (some ⟨C,0,none⟩)] w fun e w'=>e=.returned (.bool (!decide (0<=Kc.place x bs 0)))/\Gr w w':=by
 have AT:Hid (∀W:World,_):=fun W=>R9 W x
 have CF:Hid (∀(W:World) (K:Nat),Gr w W->W.cell? ⟨K,0,none⟩=some (.int .u32 x)->_):=fun W K G hk=>Ir cap (B.of G) hs hk
 have HK5:Hid (∀W:World,Gr w W->W.cell? ⟨g,5,none⟩=some (.slice ao n cap)/\W.cell? ⟨C,0,none⟩=some (.pointer (some ⟨g,0,none⟩))):=fun W G=>⟨(G.cell _ (by exact aug w _ k5)).trans k5,(G.cell _ (by exact aug w _ kc)).trans kc⟩
 generalize decide (0<=Kc.place x bs 0)=q at *
 go_enter func120,ntmps120;go_wp2_with fail
 go_region_with (first
  |(go_at_call 122;refine(AT _).mono ?_;rintro e w2 ⟨K,rfl,hk,G2⟩;have HG2:Hid (Gr w w2):=Gr.trans b9 G2;have x5:=(HK5 _ HG2).1;have xc:=(HK5 _ HG2).2;clear G2 k5 kc)
  |(go_at_call 121;refine(CF _ K HG2 hk).mono ?_;rintro e w3 ⟨rfl,G3⟩;have fQ:Hid (Gr w w3):=HG2.trans G3;clear G3))
 all_goals
  first
   |(go_wp2_with fail;go_ret;exact⟨rfl,fQ⟩)
   |(go_ret;exact⟨rfl,fQ⟩)
end En
namespace Hh
open Mm Wd
variable{n a b op x:Int}{h:Hv}{l:List UInt8}
def W (x:Int):Prop:=0<=x/\x<4294967296
theorem W.lo (n:Int):W (lo n):=vW n
theorem W.tr (b:Bool):W (tr b):=by unfold Wd.tr W;cases b<;>simp
theorem W.hi (n:Int):W (hi n):=by unfold Wd.hi W;omega
theorem W.nat {n:Nat}(h:n<2^32):W (n:Int):=by unfold W;omega
theorem W.lt (h:W a):a.toNat<2^32:=by unfold W at h;omega
theorem W.iw (ha:W a)(hb:W b):W (iw a b):=W.nat (ari _ hb.lt)
theorem W.rW (ha:W a)(hb:W b):W (rW a b):=W.nat (arn ha.lt hb.lt)
theorem W.zX (ha:W a)(hb:W b):W (zX a b):=W.nat (Nat.xor_lt_two_pow ha.lt hb.lt)
theorem W.div (ha:W a)(hb:0<=b):W (a/b):=by
 unfold W at *
 exact⟨ary ha.1 hb,Int.lt_of_le_of_lt (Int.ediv_le_self b ha.1) ha.2⟩
theorem W.mod (hb:W b)(h:¬b=0):W (a%b):=by
 unfold W at *
 have:=Int.emod_nonneg a h;have:=Int.emod_lt_of_pos a (show 0<b by omega);omega
theorem W.ite {p:Prop}[Decidable p](ha:W a)(hb:W b):W (if p then a else b):=by split<;>assumption
theorem W.eT (ha:W a)(hb:W b):W (eT op a b):=by
 have h0:W 0:=by unfold W;omega
 have h1:W 4294967295:=by unfold W;omega
 have p:=acn b hb.1;unfold Wd.eT;refine .ite (.lo _) (.ite (.lo _) (.ite (ha.iw hb) (.ite (ha.rW hb) (.ite (ha.zX hb) (.ite (.lo _) (.ite (ha.div ab) (.ite (.lo _) (.ite (.tr _) (.ite (.tr _) (.ite (.lo _) (.ite (.hi _) (.ite (.hi _) (.ite (.hi _) (.ite ?_ (.ite ?_ (.ite ?_ (.ite ?_ h0)))))))))))))))))
 ·exact .ite h1 (.lo _)
 ·exact .ite ha (.lo _)
 ·exact .ite h1 (ha.div hb.1)
 ·unfold rmu;split
  ·exact ha
  ·exact W.mod hb bo
theorem W.mO (ha:W a)(hb:W b):W (mO op a b):=by
 have h0:W 0:=by unfold W;omega
 unfold Wd.mO;exact .ite hb (.ite (.lo _) (.ite (ha.zX hb) (.ite (ha.iw hb) (.ite (ha.rW hb) (.ite (.ite ha hb) (.ite (.ite hb ha) (.ite (.ite ha hb) (.ite (.ite hb ha) h0))))))))
theorem W.aN (l:List UInt8)(op a:Int):W (aN l op a):=by
 have h0:W 0:=by unfold W;omega
 unfold Mm.aN;refine .ite ?_ h0;have h:=kI l a.toNat (mM op);have c:=Fb l a.toNat op;generalize raw l a.toNat (mM op)=x at *
 unfold wide W;repeat' split
 all_goals omega
theorem W.qD:W (qD h op a b n):=by unfold Hh.qD;refine .ite ?_ (.ite (.lo _) (.lo _));have:=vW (a+n);unfold W;omega
theorem W.reg (o:h.Ok)(i:Nat):W (rg h i):=o.reg i
theorem bG (h:bM l 13 a=true):dX l 18 a=true:=h
structure Ev.Ok (e:Ev) (l:List UInt8):Prop where
 h:e.h.Ok
 m:e.m.length=l.length
 res:W (e.res.getD 0)
 out:e.out.length<=1
 av:e.av.length<=1
theorem jZ (ok:dX l op a=true):(il l op a x).length=l.length:=by unfold il;rw[ok];exact iR _ _ _ _
theorem fD (oh:h.Ok)(om:m.length=l.length)(w:W (res.getD 0))(oo:out.length<=1)(os:av.length<=1):Ev.Ok ⟨h,m,out,av,res⟩ l:=⟨oh,om,w,oo,os⟩
theorem W.zero:W 0:=by unfold W;omega
theorem W.one:W 1:=by unfold W;omega
theorem Iu (o:h.Ok)(l:List UInt8)(op a:Int):(bF h l op a).Ok l:=by
 unfold bF;split
 ·exact fD o rfl (.aN _ _ _) aq aq
 ·exact fD (o.trap 3) rfl .zero aq aq
theorem Da (o:h.Ok)(l:List UInt8)(op a x:Int):(aH h l op a x).Ok l:=by
 unfold aH;split
 ·exact fD o (jZ bo) .zero aq aq
 ·exact fD (o.trap 4) rfl .zero aq aq
theorem Iw (o:h.Ok)(l:List UInt8)(op a b:Int)(ha:W a):(aK h l op a b).Ok l:=by
 unfold aK;split
 ·unfold gB;split
  ·exact fD (o.hold true ha.1 ha.2) rfl (.aN _ _ _) aq aq
  ·exact fD (o.trap 3) rfl .zero aq aq
 ·split
  ·unfold eU;split
   ·split
    ·exact fD (o.hold false (x:=0) ab ab) (jZ (bG bo)) .zero aq aq
    ·exact fD (o.hold false (x:=0) ab ab) rfl .one aq aq
   ·exact fD (o.trap 4) rfl .zero aq aq
  ·unfold iN;split
   ·exact fD o (jZ (bG bo)) (.aN _ _ _) aq aq
   ·exact fD (o.trap 4) rfl .zero aq aq
theorem Iy (o:h.Ok)(l:List UInt8):(bA h l).Ok l:=by
 unfold bA;split
 ·exact fD o.halt rfl .zero aq aq
 ·split
  ·exact fD o rfl .zero aq aq
  ·exact fD (o.trap 5) rfl .zero aq aq
theorem De (o:h.Ok)(l:List UInt8)(ha:W a)(hb:W b)(hn:W n):(fT h l op a b n).Ok l:=by
 unfold fT;split
 ·exact fD o rfl hn aq aq
 split
 ·exact fD o rfl (.lo _) aq aq
 split
 ·exact fD o rfl (.lo _) aq aq
 split
 ·exact Iu o l _ _
 split
 ·exact Da o l _ _ _
 split
 ·exact fD o rfl (ha.eT hn) aq aq
 split
 ·exact fD o rfl (ha.eT hb) aq aq
 split
 ·exact Iw o l _ _ _ ha
 split
 ·exact Iy o l
 split
 ·exact fD (o.trap 6) rfl .zero aq aq
 ·exact fD o rfl .zero aq aq
theorem YA (o:h.Ok)(r:Nat){x:Option Int}(w:W (x.getD 0)):(h.put r x).Ok:=by
 cases x with
 |none=>exact o
 |some x=>exact o.set r w.1 w.2
theorem acO (o:h.Ok)(w:W x):(h.on x).Ok:=by
 unfold Hv.on;split
 ·exact o.go w.1 w.2
 ·exact o
end Hh
namespace Mi
open Mm Wd Hh
structure Mv where
 op:Int
 d:Int
 a:Int
 b:Int
 n:Int
structure Rn where
 h:Hv
 m:List UInt8
 out:List Int
 n:Nat
 av:List (Int×Int)
 tm:List Int
 here:Int
 own:Bool
 over:Bool
def Rn.get (r:Rn) (k:Int):Int:=if k<32 then rg r.h k.toNat else r.tm.getD (k-32).toNat 0
def Rn.put (r:Rn) (k x:Int):Rn:=if 32<=k then { r with tm:=r.tm.set (k-32).toNat x }else { r with h:=r.h.set k.toNat x }
def Rn.stop (r:Rn) (pc:Int):Rn:={ r with h:=r.h.go pc,over:=true }
def Rn.trap (r:Rn) (c:Int):Rn:={ r with h:=(r.h.trap c).go r.here,over:=true }
def hits (bf bt p:Int):Nat→Bool
 |0=>false
 |k+1=>hits bf bt p k ||decide (bf<=lo (p+k)/\lo (p+k)<bt)
def Rn.stored (r:Rn) (bf bt:Int) (p:Int) (many:Nat):Rn:={ r with av:=r.av++[(p,(many:Int))],own:=r.own ||hits bf bt p many }
def Ag (r:Rn) (op p d:Int):Rn:=if bM r.m op p=true then r.put d (aN r.m op p)else r.trap 3
def tV (bf bt:Int) (r:Rn) (op p x:Int):Rn:=if dX r.m op p=true then { r with m:=il r.m op p x }.stored bf bt p (gG op)else r.trap 4
def mLr (r:Rn) (a d:Int):Rn:=if bM r.m 13 a=true then { r with h:=r.h.hold true a }.put d (aN r.m 13 a)else r.trap 3
def mSc (bf bt:Int) (r:Rn) (a b d:Int):Rn:=if bM r.m 13 a=true then(if r.h.held=true/\r.h.aP=a then({ r with h:=r.h.hold false 0,m:=il r.m 18 a b }.stored bf bt a 4).put d 0 else { r with h:=r.h.hold false 0 }.put d 1)else r.trap 4
def LP (bf bt:Int) (r:Rn) (op a b d:Int):Rn:=if bM r.m 13 a=true then({ r with m:=il r.m 18 a (mO op (aN r.m 13 a) b) }.stored bf bt a 4).put d (aN r.m 13 a)else r.trap 4
def Ah (bf bt:Int) (r:Rn) (op a b d:Int):Rn:=if op=46 then mLr r a d else if op=47 then mSc bf bt r a b d else LP bf bt r op a b d
def tX (r:Rn):Rn:=if rg r.h 17=0 then { r with h:=r.h.halt.go r.here,over:=true }else if rg r.h 17=1 then { r with out:=r.out++[rg r.h 10] }else r.trap 5
def Iz (steps:Int) (r:Rn) (n:Int):Rn:=if(r.n:Int)=steps\/r.own=true then r.stop n else { r with n:=r.n+1,here:=n }
def vH (bf bt:Int) (r:Rn) (c op:Int) (i:Mv):Rn:=
 if c=100 then(if holds op (r.get i.a) (r.get i.b)=true then r.stop i.n else r)
 else if c=200 then Ag r op (lo (r.get i.a+i.n)) i.d
 else if c=300 then tV bf bt r op (lo (r.get i.a+i.n)) (r.get i.b)
 else if c=400 then r.put i.d (eT op (r.get i.a) (r.get i.b))
 else if c=500 then r.put i.d (eT op (r.get i.a) i.n)
 else if c=600 then Ah bf bt r op (r.get i.a) (r.get i.b) i.d else r
def ja (bf bt steps:Int) (r:Rn) (i:Mv):Rn:=
 if i.op=1 then Iz steps r i.n else if i.op=2 then r.put i.d i.n else if i.op=3 then r.stop i.n
 else if i.op=4 then r.stop (lo (r.get i.a+i.n)-lo (r.get i.a+i.n)%2)else if i.op=5 then tX r else if i.op=6 then r.trap 6
 else vH bf bt r (i.op-i.op%100) (i.op%100) i
def named (op:Int):Int:=
 if op=1\/op=3 then 8 else if op=2 then 9 else if op=4 then 10 else if op=5\/op=6 then 0
 else if 105<=op/\op<=110 then 14 else if 211<=op/\op<=215 then 11 else if 316<=op/\op<=318 then 14
 else if 428<=op/\op<=445 then 7 else if 528<=op/\op<=545 then 11 else if 646<=op/\op<=656 then 7 else -1
def bR (has:Bool) (k:Int):Bool:=decide ((has=true\/k=0)/\0<=k/\k<36)
def dZ (i:Mv):Bool:=decide (0<=named i.op) && (decide (8<=named i.op\/i.n=0) && (bR (decide (named i.op%2=1)) i.d && (bR (decide (named i.op/2%2=1)) i.a && bR (decide (named i.op/4%2=1)) i.b)))
def nZ (code:List Mv):Bool:=decide (code.length<=200) && code.all dZ
def bB (bf bt steps:Int) (r:Rn):List Mv→Rn
 | []=>r
 |i::is=>if r.over=true then r else bB bf bt steps (ja bf bt steps r i) is
def mend (r:Rn):Rn:=if r.over=false/\0<r.n then { r with h:=r.h.go (lo (r.here+4)) }else r
def mstart (h:Hv) (l:List UInt8):Rn:=⟨h,l,[],0,[],[0,0,0,0],h.pc,false,false⟩
def dC (bf bt steps:Int) (h:Hv) (l:List UInt8) (code:List Mv):Rn:=mend (bB bf bt steps (mstart h l) code)
structure Rn.Ok (r:Rn):Prop where
 h:r.h.Ok
 tl:r.tm.length=4
 tb:∀j,0<=r.tm.getD j 0/\r.tm.getD j 0<4294967296
 h0:0<=r.here
 h1:r.here<4294967296
theorem Rn.Ok.get {r:Rn}(o:r.Ok)(k:Int):W (r.get k):=by
 unfold Rn.get;split
 ·exact o.h.reg _
 ·exact o.tb _
theorem LQ (l:List Int)(k j:Nat)(x:Int):(l.set k x).getD j 0=if j=k/\k<l.length then x else l.getD j 0:=by
 simp only[List.getD,ap1];by_cases e:k=j
 ·subst e;by_cases h:k<l.length
  ·simp[h]
  ·simp[h]
 ·have e2:¬j=k:=fun q=>e q.symm
  simp[e,e2]
theorem Rn.Ok.put {r:Rn}(o:r.Ok)(k:Int){x:Int}(hx:W x):(r.put k x).Ok:=by
 unfold Rn.put;split
 ·refine⟨o.h,by simp[o.tl],fun j=>?_,o.h0,o.h1⟩;show 0<=(r.tm.set _ x).getD j 0/\_
  rw[LQ];split
  ·exact hx
  ·exact o.tb j
 ·exact⟨o.h.set _ hx.1 hx.2,o.tl,o.tb,o.h0,o.h1⟩
theorem Rn.Ok.stop {r:Rn}(o:r.Ok){x:Int}(hx:W x):(r.stop x).Ok:=⟨o.h.go hx.1 hx.2,o.tl,o.tb,o.h0,o.h1⟩
theorem Rn.Ok.trap {r:Rn}(o:r.Ok)(c:Int):(r.trap c).Ok:=⟨(o.h.trap c).go o.h0 o.h1,o.tl,o.tb,o.h0,o.h1⟩
theorem Rn.Ok.hart {r:Rn}(o:r.Ok){h:Hv}(q:h.Ok):Rn.Ok { r with h:=h }:=⟨q,o.tl,o.tb,o.h0,o.h1⟩
theorem Rn.Ok.mem {r:Rn}(o:r.Ok)(m:List UInt8):Rn.Ok { r with m:=m }:=⟨o.h,o.tl,o.tb,o.h0,o.h1⟩
theorem Rn.Ok.stored {r:Rn}(o:r.Ok)(bf bt p:Int)(k:Nat):(r.stored bf bt p k).Ok:=⟨o.h,o.tl,o.tb,o.h0,o.h1⟩
end Mi
namespace Ts
open Mm Hh Mi
def vI (bY last:Int) (p:Int×Int):Bool:=decide (p.1<last/\bY<Wd.lo (p.1+p.2))
def b1 (r:Rn):Rn:={ r with h:=(dV r.h r.m).h,m:=(dV r.h r.m).m,out:=r.out++(dV r.h r.m).out,n:=r.n+1,av:=r.av++(dV r.h r.m).av }
def wK (bY last:Int) (k:Nat) (S:Sv):Bool:=decide (¬S.h.state=0) ||(decide (¬S.h.pc=Wd.lo (bY+(4*k+4))) ||S.av.any (vI bY last))
def FE (bY last steps:Int):Nat→Nat→Rn→Rn
 |0,_,r=>r
 |f+1,k,r=>if(r.n:Int)<steps then(if wK bY last k (dV r.h r.m)=true then b1 r else FE bY last steps f (k+1) (b1 r))else r
end Ts
namespace Mi
open Mm Wd Hh
variable{r:Rn}{code:List Mv}{j:Nat}{i:Mv}
theorem eY (bf bt steps:Int)(h:r.over=true):∀l,bB bf bt steps r l=r
 | []=>rfl
 |i::is=>by unfold bB;rw[at7 h]
theorem fJ (bf bt steps:Int):∀(l k:List Mv) (r:Rn),bB bf bt steps r (l++k)=bB bf bt steps (bB bf bt steps r l) k
 | [],k,r=>rfl
 |i::is,k,r=>by
  by_cases h:r.over=true
  ·rw[eY _ _ _ h,eY _ _ _ h,eY _ _ _ h]
  ·rw[apZ,bB,at6 h,fJ bf bt steps is k,bB,at6 h]
theorem qG (bf bt steps:Int)(hi:code[j]?=some i)(ho:(bB bf bt steps r (code.take j)).over=false):bB bf bt steps r (code.take (j+1))=ja bf bt steps (bB bf bt steps r (code.take j)) i:=by
 rw[apU,hi,fJ];show bB bf bt steps _ [i]=_
 rw[bB,at6 (by simp[ho]),bB]
theorem IA (bf bt steps:Int)(ho:(bB bf bt steps r (code.take j)).over=true):bB bf bt steps r code=bB bf bt steps r (code.take j):=by have e:=fJ bf bt steps (code.take j) (code.drop j) r;rw[aqd]at e;rw[e,eY _ _ _ ho]
structure Bd (r r':Rn):Prop where
 m:r'.m.length=r.m.length
 av:r'.av.length<=r.av.length+1
 out:r'.out.length<=r.out.length+1
 n:r'.n<=r.n+1
theorem Bd.refl (r:Rn):Bd r r:=⟨rfl,ab,ab,ab⟩
theorem lF {r':Rn}(h:Bd r r')(k x:Int):Bd r (r'.put k x):=by
 unfold Rn.put;split
 ·exact⟨h.m,h.av,h.out,h.n⟩
 ·exact⟨h.m,h.av,h.out,h.n⟩
theorem fH {x:Int}(h:dX l op a=true):(il l op a x).length=l.length:=by unfold il;rw[at7 h,iR]
theorem kM (r:Rn)(c:Int):Bd r (r.trap c):=⟨rfl,by simp[Rn.trap],by simp[Rn.trap],by simp[Rn.trap]⟩
theorem sH (r:Rn)(c:Int):Bd r (r.stop c):=⟨rfl,by simp[Rn.stop],by simp[Rn.stop],by simp[Rn.stop]⟩
theorem qH {h:Hv}(hm:m.length=r.m.length)(bf bt p:Int)(k:Nat):Bd r ({ r with h:=h,m:=m }.stored bf bt p k):=⟨hm,by simp[Rn.stored],by simp[Rn.stored],by simp[Rn.stored]⟩
theorem FH (r:Rn)(h:Hv):Bd r { r with h:=h }:=⟨rfl,aq,aq,aq⟩
theorem YB (bf bt:Int)(r:Rn)(c op:Int)(i:Mv):Bd r (vH bf bt r c op i):=by
 unfold vH;split
 ·split
  ·exact sH r _
  ·exact Bd.refl r
 split
 ·unfold Ag;split
  ·exact lF (Bd.refl r) _ _
  ·exact kM r _
 split
 ·unfold tV;split
  ·rename_i h;exact qH (h:=r.h) (fH h) _ _ _ _
  ·exact kM r _
 split
 ·exact lF (Bd.refl r) _ _
 split
 ·exact lF (Bd.refl r) _ _
 split
 ·unfold Ah;split
  ·unfold mLr;split
   ·exact lF (FH r _) _ _
   ·exact kM r _
  split
  ·unfold mSc;split
   ·rename_i h;split
    ·exact lF (qH (fH (bG h)) _ _ _ _) _ _
    ·exact lF (FH r _) _ _
   ·exact kM r _
  ·unfold LP;split
   ·rename_i h;exact lF (qH (h:=r.h) (fH (bG h)) _ _ _ _) _ _
   ·exact kM r _
 ·exact Bd.refl r
theorem YC (bf bt steps:Int)(r:Rn)(i:Mv):Bd r (ja bf bt steps r i):=by
 unfold ja;split
 ·unfold Iz;split
  ·exact sH r _
  ·exact⟨rfl,aq,aq,aq⟩
 split
 ·exact lF (Bd.refl r) _ _
 split
 ·exact sH r _
 split
 ·exact sH r _
 split
 ·unfold tX;split
  ·exact⟨rfl,aq,aq,aq⟩
  split
  ·exact⟨rfl,aq,aq,aq⟩
  ·exact kM r _
 split
 ·exact kM r _
 ·exact YB bf bt r _ _ i
theorem FI (bf bt steps:Int)(r:Rn)(code:List Mv):∀j,(bB bf bt steps r (code.take j)).m.length=r.m.length∧(bB bf bt steps r (code.take j)).av.length≤r.av.length+j∧(bB bf bt steps r (code.take j)).out.length≤r.out.length+j∧(bB bf bt steps r (code.take j)).n≤r.n+j
 |0=>⟨rfl,by simp[bB],by simp[bB],by simp[bB]⟩
 |j+1=>by
  obtain⟨h1,h2,h3,h4⟩:=FI bf bt steps r code j;cases hi:code[j]? with
  |none=>
   have e:code.take (j+1)=code.take j:=by rw[apU,hi];simp
   rw[e];exact⟨h1,ab,ab,ab⟩
  |some i=>
   cases ho:(bB bf bt steps r (code.take j)).over with
   |false=>
    rw[qG bf bt steps hi ho];have b:=YC bf bt steps (bB bf bt steps r (code.take j)) i;have b2:=b.av;have b3:=b.out;have b4:=b.n;exact⟨b.m.trans h1,ab,ab,ab⟩
   |true=>
    have e:bB bf bt steps r (code.take (j+1))=bB bf bt steps r (code.take j):=by
     rw[apU,hi,fJ,eY _ _ _ ho]
    rw[e];exact⟨h1,ab,ab,ab⟩
theorem Ai (h:dZ i=true):0<=named i.op/\(0<=i.d/\i.d<36)/\(0<=i.a/\i.a<36)/\0<=i.b/\i.b<36:=by unfold dZ bR at h;simp only[apD,auk]at h;obtain⟨h1,_,⟨_,h2⟩,⟨_,h3⟩,⟨_,h4⟩⟩:=h;exact⟨h1,h2,h3,h4⟩
end Mi
namespace Mi
open Mm Wd Hh
variable{k:Nat}{r r':Rn}{i:Mv}{h:Hv}
def meet (bf bt:Int) (p:Int×Int):Bool:=decide (max p.1 bf<min (lo (p.1+p.2)) bt)
def ownB (bf bt:Int) (ss:List (Int×Int)):Bool:=ss.any (meet bf bt)
theorem Aj (bf bt p:Int):∀k,hits bf bt p k=true↔∃j:Nat,j<k∧bf≤lo (p+j)∧lo (p+j)<bt
 |0=>⟨fun h=>(by cases h),fun⟨j,h,_⟩=>absurd h ab⟩
 |k+1=>by
  unfold hits;rw[aqV,Aj bf bt p k,decide_eq_true_iff];constructor
  ·rintro(⟨j,h,q⟩|q)
   ·exact⟨j,ab,q⟩
   ·exact⟨k,ab,q⟩
  ·rintro⟨j,h,q⟩;by_cases e:j=k
   ·subst e;exact .inr q
   ·exact .inl ⟨j,ab,q⟩
theorem wL (h0:0<=p)(h1:p+k<4294967296)(hk:k<=4):hits bf bt p k=meet bf bt (p,(k:Int)):=by
 have e:∀j:Nat,j<=k->lo (p+j)=p+j:=fun j h=>aqr ab ab
 rw[arx,Aj];unfold meet;rw[decide_eq_true_iff];show _↔max p bf<min (lo (p+k)) bt
 rw[e k ab];constructor
 ·rintro⟨j,hj,a,b⟩;rw[e j ab]at a b;rw[Int.max_def,Int.min_def];split<;>split<;>omega
 ·intro h;rw[Int.max_def,Int.min_def]at h;by_cases c:p<=bf
  ·refine⟨(bf-p).toNat,?_,?_⟩
   ·split at h<;>split at h<;>omega
   ·rw[e _ (by split at h<;>split at h<;>omega)];split at h<;>split at h<;>omega
  ·refine⟨0,?_,?_⟩
   ·split at h<;>split at h<;>omega
   ·rw[e _ ab];split at h<;>split at h<;>omega
def fK (r:Rn) (i:Mv):Ev:=
 if i.op=2 then⟨r.h,r.m,[],[],some i.n⟩
 else if 211<=i.op/\i.op<=215 then bF r.h r.m (i.op-200) (lo (r.get i.a+i.n))
 else if 316<=i.op/\i.op<=318 then aH r.h r.m (i.op-300) (lo (r.get i.a+i.n)) (r.get i.b)
 else if 428<=i.op/\i.op<=445 then⟨r.h,r.m,[],[],some (eT (i.op-400) (r.get i.a) (r.get i.b))⟩
 else if 528<=i.op/\i.op<=545 then⟨r.h,r.m,[],[],some (eT (i.op-500) (r.get i.a) i.n)⟩
 else if 646<=i.op/\i.op<=656 then aK r.h r.m (i.op-600) (r.get i.a) (r.get i.b)
 else⟨r.h,r.m,[],[],none⟩
def Rn.ev (r:Rn) (e:Ev):Rn:={ r with h:=e.h,m:=e.m,out:=r.out++e.out,av:=r.av++e.av }
def Rn.iV (r:Rn) (d:Int):Option Int→Rn
 |some x=>r.put d x
 |none=>r
def fu (r:Rn) (i:Mv):Rn:=
 if i.op=1 then { r with n:=r.n+1,here:=i.n }else if i.op=5 then r.ev (bA r.h r.m)else if i.op=6 then { r with h:=r.h.trap 6 }
 else(r.ev (fK r i)).iV i.d (fK r i).res
def FJ (r:Rn) (i:Mv):Int:=if i.op=4 then lo (r.get i.a+i.n)-lo (r.get i.a+i.n)%2 else i.n
def vo (bf bt steps:Int) (r:Rn) (i:Mv):Bool:=if i.op=1 then decide ((r.n:Int)=steps) ||ownB bf bt r.av else if i.op=3 then true else if i.op=4 then true else holds (i.op-100) (r.get i.a) (r.get i.b)
def QW (bf bt steps:Int) (r:Rn) (i:Mv):Rn:=if vo bf bt steps r i=true then r.stop (FJ r i)else if(fu r i).h.state=0 then fu r i else(fu r i).stop (fu r i).here
theorem eZ (r:Rn)(k x:Int):(r.put k x).h.state=r.h.state:=by
 unfold Rn.put;split
 ·rfl
 ·unfold Hv.set;split<;>rfl
theorem jJ (r:Rn)(o:Option Int):r.ev ⟨r.h,r.m,[],[],o⟩=r:=by simp[Rn.ev]
theorem tY (h:vo bf bt steps r i=true):QW bf bt steps r i=r.stop (FJ r i):=at7 h
theorem gK (h:vo bf bt steps r i=false)(q:(fu r i).h.state=0):QW bf bt steps r i=fu r i:=by unfold QW;rw[at6 (by simp[h]),at7 q]
theorem iW (h:vo bf bt steps r i=false)(q:¬(fu r i).h.state=0):QW bf bt steps r i=(fu r i).stop (fu r i).here:=by unfold QW;rw[at6 (by simp[h]),at6 q]
theorem jF (h:0<=named op):op=1\/op=2\/op=3\/op=4\/op=5\/op=6\/(105<=op/\op<=110)\/(211<=op/\op<=215)\/(316<=op/\op<=318)\/(428<=op/\op<=445)\/(528<=op/\op<=545)\/(646<=op/\op<=656):=by
 unfold named at h;split at h
 ·omega
 split at h
 ·omega
 split at h
 ·omega
 split at h
 ·omega
 split at h
 ·omega
 split at h
 ·omega
 split at h
 ·omega
 split at h
 ·omega
 split at h
 ·omega
 split at h
 ·omega
 omega
theorem Ak (h:op<5\/10<op):holds op a b=false:=by unfold holds;rw[ak,ak,ak,ak,ak,ak]
theorem lG (h:i.op≠1/\i.op≠3/\i.op≠4/\(i.op<105\/110<i.op)):vo bf bt steps r i=false:=by unfold vo;rw[at6 h.1,at6 h.2.1,at6 h.2.2.1,Ak ab]
theorem ow (h:i.op≠1/\i.op≠5/\i.op≠6):fu r i=(r.ev (fK r i)).iV i.d (fK r i).res:=by unfold fu;rw[at6 h.1,at6 h.2.1,at6 h.2.2]
theorem gM {c k:Int}(h:100<=c)(hk:0<=k/\k<100)(h2:i.op=c+k)(h3:c%100=0):ja bf bt steps r i=vH bf bt r c k i:=by unfold ja;rw[ak,ak,ak,ak,ak,ak,show i.op-i.op%100=c by omega,show i.op%100=k by omega]
theorem fI (h:r=r'):{ r with own:=r'.own }=r':=by subst h;rfl
theorem LU (d x:Int){o:Bool}(h:{ r with own:=r'.own }=r'):{ r.put d x with own:=(r'.put d x).own }=r'.put d x:=by have e:=h.symm;rw[e];unfold Rn.put;split<;>rfl
theorem FM (hi:0<=named i.op)(hs:r.h.state=0)(hw:r.own=ownB bf bt r.av):{ QW bf bt steps r i with own:=(ja bf bt steps r i).own }=ja bf bt steps r i:=by
 rcases jF hi with h|h|h|h|h|h|h|h|h|h|h|h
 ·have e:ja bf bt steps r i=Iz steps r i.n:=by unfold ja;rw[at7 h]
  have e1:vo bf bt steps r i=(decide ((r.n:Int)=steps) ||r.own):=by unfold vo;rw[at7 h,hw]
  have e2:FJ r i=i.n:=by unfold FJ;rw[ak]
  have e3:fu r i={ r with n:=r.n+1,here:=i.n }:=by unfold fu;rw[at7 h]
  rw[e];refine fI ?_;unfold Iz;split
  ·rename_i q;rw[tY (by rw[e1];simpa using q),e2]
  ·rename_i q;have q1:vo bf bt steps r i=false:=by
    rw[e1];simp only[not_or,Bool.not_eq_true]at q;simp[q.1,q.2]
   rw[gK q1 (by rw[e3];exact hs),e3]
 ·have e:ja bf bt steps r i=r.put i.d i.n:=by unfold ja;rw[ak,at7 h]
  have e0:fK r i=⟨r.h,r.m,[],[],some i.n⟩:=by unfold fK;rw[at7 h]
  have e3:fu r i=r.put i.d i.n:=by rw[ow ab,e0,jJ];rfl
  rw[e];refine fI ?_;rw[gK (lG ab) (by rw[e3,eZ];exact hs),e3]
 ·have e:ja bf bt steps r i=r.stop i.n:=by unfold ja;rw[ak,ak,at7 h]
  rw[e];refine fI ?_;rw[tY (by unfold vo;rw[ak,at7 h])];unfold FJ;rw[ak]
 ·have e:ja bf bt steps r i=r.stop (lo (r.get i.a+i.n)-lo (r.get i.a+i.n)%2):=by unfold ja;rw[ak,ak,ak,at7 h]
  rw[e];refine fI ?_;rw[tY (by unfold vo;rw[ak,ak,at7 h])];unfold FJ;rw[at7 h]
 ·have e:ja bf bt steps r i=tX r:=by unfold ja;rw[ak,ak,ak,ak,at7 h]
  have e3:fu r i=r.ev (bA r.h r.m):=by unfold fu;rw[ak,at7 h]
  have e1:vo bf bt steps r i=false:=lG ab;rw[e];refine fI ?_;unfold tX;unfold bA at e3;split
  ·rename_i q;rw[at7 q]at e3;rw[iW e1 (by rw[e3];simp[Rn.ev,Hv.halt]),e3];simp[Rn.ev,Rn.stop]
  split
  ·rename_i q0 q;rw[at6 q0,at7 q]at e3;rw[gK e1 (by rw[e3];exact hs),e3];simp[Rn.ev]
  ·rename_i q0 q;rw[at6 q0,at6 q]at e3;rw[iW e1 (by rw[e3];simp[Rn.ev,Hv.trap]),e3];simp[Rn.ev,Rn.stop,Rn.trap]
 ·have e:ja bf bt steps r i=r.trap 6:=by unfold ja;rw[ak,ak,ak,ak,ak,at7 h]
  have e3:fu r i={ r with h:=r.h.trap 6 }:=by unfold fu;rw[ak,ak,at7 h]
  rw[e];refine fI ?_;rw[iW (lG ab) (by rw[e3];simp[Hv.trap]),e3];rfl
 ·rw[gM (c:=100) (k:=i.op-100) ab ab ab ab];have e1:vo bf bt steps r i=holds (i.op-100) (r.get i.a) (r.get i.b):=by unfold vo;rw[ak,ak,ak]
  have e2:FJ r i=i.n:=by unfold FJ;rw[ak]
  have e0:fK r i=⟨r.h,r.m,[],[],none⟩:=by unfold fK;rw[ak,ak,ak,ak,ak,ak]
  have e3:fu r i=r:=by rw[ow ab,e0,jJ];rfl
  refine fI ?_;unfold vH;rw[at7 rfl];split
  ·rename_i q;rw[tY (by rw[e1];exact q),e2]
  ·rename_i q;rw[gK (by rw[e1];simpa using q) (by rw[e3];exact hs),e3]
 ·rw[gM (c:=200) (k:=i.op-200) ab ab ab ab];have e1:vo bf bt steps r i=false:=lG ab;have e0:fK r i=bF r.h r.m (i.op-200) (lo (r.get i.a+i.n)):=by unfold fK;rw[ak,at7 h]
  have e3:fu r i=(r.ev (fK r i)).iV i.d (fK r i).res:=ow ab;refine fI ?_;unfold vH;rw[ak,at7 rfl];unfold Ag;unfold bF at e0;split
  ·rename_i q;rw[at7 q]at e0;rw[e0,jJ]at e3;rw[gK e1 (by rw[e3];exact(eZ _ _ _).trans hs),e3];rfl
  ·rename_i q;rw[at6 q]at e0;rw[e0]at e3;rw[iW e1 (by rw[e3];simp[Rn.ev,Rn.iV,Hv.trap]),e3];simp[Rn.ev,Rn.stop,Rn.trap,Rn.iV]
 ·rw[gM (c:=300) (k:=i.op-300) ab ab ab ab];have e1:vo bf bt steps r i=false:=lG ab;have e0:fK r i=aH r.h r.m (i.op-300) (lo (r.get i.a+i.n)) (r.get i.b):=by unfold fK;rw[ak,ak,at7 h]
  have e3:fu r i=(r.ev (fK r i)).iV i.d (fK r i).res:=ow ab;unfold vH;rw[ak,ak,at7 rfl];unfold tV;unfold aH at e0;split
  ·rename_i q;rw[at7 q]at e0;rw[e0]at e3;rw[gK e1 (by rw[e3];exact hs),e3];simp[Rn.ev,Rn.iV,Rn.stored]
  ·rename_i q;refine fI ?_;rw[at6 q]at e0;rw[e0]at e3;rw[iW e1 (by rw[e3];simp[Rn.ev,Rn.iV,Hv.trap]),e3];simp[Rn.ev,Rn.stop,Rn.trap,Rn.iV]
 ·rw[gM (c:=400) (k:=i.op-400) ab ab ab ab];have e0:fK r i=⟨r.h,r.m,[],[],some (eT (i.op-400) (r.get i.a) (r.get i.b))⟩:=by unfold fK;rw[ak,ak,ak,at7 h]
  have e3:fu r i=r.put i.d (eT (i.op-400) (r.get i.a) (r.get i.b)):=by rw[ow ab,e0,jJ];rfl
  refine fI ?_;unfold vH;rw[ak,ak,ak,at7 rfl];rw[gK (lG ab) (by rw[e3,eZ];exact hs),e3]
 ·rw[gM (c:=500) (k:=i.op-500) ab ab ab ab];have e0:fK r i=⟨r.h,r.m,[],[],some (eT (i.op-500) (r.get i.a) i.n)⟩:=by unfold fK;rw[ak,ak,ak,ak,at7 h]
  have e3:fu r i=r.put i.d (eT (i.op-500) (r.get i.a) i.n):=by rw[ow ab,e0,jJ];rfl
  refine fI ?_;unfold vH;rw[ak,ak,ak,ak,at7 rfl];rw[gK (lG ab) (by rw[e3,eZ];exact hs),e3]
 ·rw[gM (c:=600) (k:=i.op-600) ab ab ab ab];have e1:vo bf bt steps r i=false:=lG ab;have e0:fK r i=aK r.h r.m (i.op-600) (r.get i.a) (r.get i.b):=by unfold fK;rw[ak,ak,ak,ak,ak,at7 h]
  have e3:fu r i=(r.ev (fK r i)).iV i.d (fK r i).res:=ow ab;unfold vH;rw[ak,ak,ak,ak,ak,at7 rfl];unfold Ah;unfold aK at e0;by_cases q6:i.op-600=46
  ·rw[at7 q6]at e0 ⊢;refine fI ?_;unfold mLr;unfold gB at e0;split
   ·rename_i q;rw[at7 q]at e0;rw[e0]at e3;have e4:fu r i={ r with h:=r.h.hold true (r.get i.a) }.put i.d (aN r.m 13 (r.get i.a)):=by rw[e3];simp[Rn.ev,Rn.iV]
    rw[gK e1 (by rw[e4,eZ];exact hs),e4]
   ·rename_i q;rw[at6 q]at e0;rw[e0]at e3;rw[iW e1 (by rw[e3];simp[Rn.ev,Rn.iV,Hv.trap]),e3];simp[Rn.ev,Rn.stop,Rn.trap,Rn.iV]
  rw[at6 q6]at e0 ⊢;by_cases q7:i.op-600=47
  ·rw[at7 q7]at e0 ⊢;unfold mSc;unfold eU at e0;by_cases q:bM r.m 13 (r.get i.a)=true
   ·rw[at7 q]at e0 ⊢;by_cases q2:r.h.held=true/\r.h.aP=r.get i.a
    ·rw[at7 q2]at e0 ⊢;rw[e0]at e3;have e4:fu r i=({ r with h:=r.h.hold false 0,m:=il r.m 18 (r.get i.a) (r.get i.b),av:=r.av++[(r.get i.a,4)] }:Rn).put i.d 0:=by rw[e3];simp[Rn.ev,Rn.iV]
     rw[gK e1 (by rw[e4,eZ];exact hs),e4];refine LU (o:=true) _ _ ?_;rfl
    ·rw[at6 q2]at e0 ⊢;rw[e0]at e3;have e4:fu r i={ r with h:=r.h.hold false 0 }.put i.d 1:=by rw[e3];simp[Rn.ev,Rn.iV]
     refine fI ?_;rw[gK e1 (by rw[e4,eZ];exact hs),e4]
   ·rw[at6 q]at e0 ⊢;rw[e0]at e3;refine fI ?_;rw[iW e1 (by rw[e3];simp[Rn.ev,Rn.iV,Hv.trap]),e3];simp[Rn.ev,Rn.stop,Rn.trap,Rn.iV]
  rw[at6 q7]at e0 ⊢;unfold LP;unfold iN at e0;by_cases q:bM r.m 13 (r.get i.a)=true
  ·rw[at7 q]at e0 ⊢;rw[e0]at e3;have e4:fu r i=({ r with m:=il r.m 18 (r.get i.a) (mO (i.op-600) (aN r.m 13 (r.get i.a)) (r.get i.b)),av:=r.av++[(r.get i.a,4)] }:Rn).put i.d (aN r.m 13 (r.get i.a)):=by rw[e3];simp[Rn.ev,Rn.iV]
   rw[gK e1 (by rw[e4,eZ];exact hs),e4];refine LU (o:=true) _ _ ?_;rfl
  ·rw[at6 q]at e0 ⊢;rw[e0]at e3;refine fI ?_;rw[iW e1 (by rw[e3];simp[Rn.ev,Rn.iV,Hv.trap]),e3];simp[Rn.ev,Rn.stop,Rn.trap,Rn.iV]
structure Gd (bf bt:Int) (r:Rn):Prop where
 ok:r.Ok
 st:r.over=false->r.h.state=0
 own:r.own=ownB bf bt r.av
 len:r.m.length<=4096
theorem Gd.put (g:Gd bf bt r)(k:Int)(hx:W x):Gd bf bt (r.put k x):=by
 refine⟨g.ok.put k hx,?_,?_,?_⟩
 ·rw[eZ];have:(r.put k x).over=r.over:=by unfold Rn.put;split<;>rfl
  rw[this];exact g.st
 ·have:(r.put k x).own=r.own/\(r.put k x).av=r.av:=by unfold Rn.put;split<;>exact⟨rfl,rfl⟩
  rw[this.1,this.2];exact g.own
 ·have:(r.put k x).m=r.m:=by unfold Rn.put;split<;>rfl
  rw[this];exact g.len
theorem Gd.stop (g:Gd bf bt r)(hx:W x):Gd bf bt (r.stop x):=⟨g.ok.stop hx,fun h=>(by cases h),g.own,g.len⟩
theorem Gd.trap (g:Gd bf bt r)(c:Int):Gd bf bt (r.trap c):=⟨g.ok.trap c,fun h=>(by cases h),g.own,g.len⟩
theorem Gd.hart (g:Gd bf bt r)(o:h.Ok)(e:h.state=r.h.state):Gd bf bt { r with h:=h }:=⟨g.ok.hart o,fun q=>e.trans (g.st q),g.own,g.len⟩
theorem Gd.stored (g:Gd bf bt r)(m:List UInt8)(hm:m.length=r.m.length)(h0:0<=p)(h1:p+k<=r.m.length)(hk:k<=4):Gd bf bt ({ r with m:=m }.stored bf bt p k):=by
 have hl:=g.len;refine⟨(g.ok.mem m).stored _ _ _ _,g.st,?_,by show m.length<=4096;omega⟩;show(r.own ||hits bf bt p k)=ownB bf bt (r.av++[(p,(k:Int))])
 rw[wL h0 ab hk,g.own];unfold ownB;rw[aq5];simp
theorem Df (h:qy l.length n a=true):a+n<=l.length:=by unfold qy at h;simp only[auk]at h;exact h.2.2
theorem Gd.vH (g:Gd bf bt r)(c op:Int)(hn:W i.n):Gd bf bt (vH bf bt r c op i):=by
 have wa:=g.ok.get i.a;have wb:=g.ok.get i.b;have wl:=W.lo (r.get i.a+i.n);unfold Mi.vH;split
 ·split
  ·exact g.stop hn
  ·exact g
 split
 ·unfold Ag;split
  ·exact g.put _ (W.aN _ _ _)
  ·exact g.trap _
 split
 ·unfold tV;split
  ·rename_i h;exact g.stored _ (fH h) wl.1 (Df h) (qz _)
  ·exact g.trap _
 split
 ·exact g.put _ (W.eT wa wb)
 split
 ·exact g.put _ (W.eT wa hn)
 split
 ·unfold Ah;split
  ·unfold mLr;split
   ·exact(g.hart (g.ok.h.hold true wa.1 wa.2) rfl).put _ (W.aN _ _ _)
   ·exact g.trap _
  split
  ·unfold mSc;split
   ·rename_i h;split
    ·exact((g.hart (g.ok.h.hold false (x:=0) ab ab) rfl).stored _ (fH (bG h)) wa.1 (Df (bG h)) (qz 18)).put _ .zero
    ·exact(g.hart (g.ok.h.hold false (x:=0) ab ab) rfl).put _ ⟨ab,ab⟩
   ·exact g.trap _
  ·unfold LP;split
   ·rename_i h;exact(g.stored _ (fH (bG h)) wa.1 (Df (bG h)) (qz 18)).put _ (W.aN _ _ _)
   ·exact g.trap _
 ·exact g
theorem Gd.ja (g:Gd bf bt r)(hn:W i.n)(ho:r.over=false):Gd bf bt (ja bf bt steps r i):=by
 have wl:=W.lo (r.get i.a+i.n);unfold Mi.ja;split
 ·unfold Iz;split
  ·exact g.stop hn
  ·exact⟨⟨g.ok.h,g.ok.tl,g.ok.tb,hn.1,hn.2⟩,g.st,g.own,g.len⟩
 split
 ·exact g.put _ hn
 split
 ·exact g.stop hn
 split
 ·exact g.stop ⟨by have:=wl.1;have:=wl.2;omega,by have:=wl.1;have:=wl.2;omega⟩
 split
 ·unfold tX;split
  ·exact⟨g.ok.hart (g.ok.h.halt.go g.ok.h0 g.ok.h1) |> fun o=>⟨o.h,o.tl,o.tb,o.h0,o.h1⟩,fun h=>(by cases h),g.own,g.len⟩
  split
  ·exact⟨⟨g.ok.h,g.ok.tl,g.ok.tb,g.ok.h0,g.ok.h1⟩,g.st,g.own,g.len⟩
  ·exact g.trap _
 split
 ·exact g.trap _
 ·exact g.vH _ _ hn
theorem Gd.start (o:h.Ok)(hs:h.state=0)(hl:l.length<=4096):Gd bf bt (mstart h l):=⟨⟨o,rfl,fun j=>by match j with|0|1|2|3=>exact W.zero|j+4=>exact W.zero,o.nH,o.jV⟩,fun _=>hs,rfl,hl⟩
theorem Gd.bB {bf bt steps:Int}{r:Rn}(g:Gd bf bt r){code:List Mv}(hn:∀i∈code,W i.n):∀j,Gd bf bt (bB bf bt steps r (code.take j))
 |0=>g
 |j+1=>by
  have q:=Gd.bB (steps:=steps) g hn j;cases hi:code[j]? with
  |none=>
   have e:code.take (j+1)=code.take j:=by rw[apU,hi];simp
   rw[e];exact q
  |some i=>
   cases ho:(Mi.bB bf bt steps r (code.take j)).over with
   |false=>
    rw[qG bf bt steps hi ho];exact q.ja (hn i (aps hi)) ho
   |true=>
    have e:Mi.bB bf bt steps r (code.take (j+1))=Mi.bB bf bt steps r (code.take j):=by
     rw[apU,hi,fJ,eY _ _ _ ho]
    rw[e];exact q
theorem Sb (o:r.Ok)(hn:W i.n)(h:(fK r i).res=some x):W x:=by
 have wa:=o.get i.a;have wb:=o.get i.b;unfold fK at h;split at h
 ·injection h with h;rw[<-h];exact hn
 split at h
 ·unfold bF at h;split at h
  ·injection h with h;rw[<-h];exact W.aN _ _ _
  ·cases h
 split at h
 ·unfold aH at h;split at h<;>cases h
 split at h
 ·injection h with h;rw[<-h];exact W.eT wa wb
 split at h
 ·injection h with h;rw[<-h];exact W.eT wa hn
 split at h
 ·unfold aK at h;split at h
  ·unfold gB at h;split at h
   ·injection h with h;rw[<-h];exact W.aN _ _ _
   ·cases h
  split at h
  ·unfold eU at h;split at h
   ·split at h
    ·injection h with h;rw[<-h];exact .zero
    ·injection h with h;rw[<-h];exact .one
   ·cases h
  ·unfold iN at h;split at h
   ·injection h with h;rw[<-h];exact W.aN _ _ _
   ·cases h
 ·cases h
end Mi
namespace Bk
open Mm Hh
variable{l:List UInt8}{pc:Int}{n k:Nat}
def jR (l:List UInt8) (pc:Int):Int:=if bM l 13 pc=true then(if Dc.aO (aN l 13 pc)=0 then 2 else 0)else 1
def eB (op:Int):Bool:=decide ((3<=op/\op<=10)\/op=58\/op=59)
def at4 (pc:Int) (k:Nat):Int:=Wd.lo (pc+4*k)
def blk (l:List UInt8) (pc:Int):Nat→Nat→List Int
 |0,_=>[]
 |n+1,k=>if jR l (at4 pc k)=0 then aN l 13 (at4 pc k)::(if eB (Dc.aO (aN l 13 (at4 pc k)))=true then[]else blk l pc n (k+1))else[]
theorem yn (pc:Int)(k:Nat):0<=at4 pc k/\at4 pc k<4294967296:=by unfold at4 Wd.lo;omega
theorem pg (h:¬jR l (at4 pc k)=0):blk l pc (n+1) k=[]:=by unfold blk;rw[at6 h]
theorem pq (h:jR l (at4 pc k)=0)(hl:eB (Dc.aO (aN l 13 (at4 pc k)))=true):blk l pc (n+1) k=[aN l 13 (at4 pc k)]:=by unfold blk;rw[at7 h,at7 hl]
theorem yo (h:jR l (at4 pc k)=0)(hl:eB (Dc.aO (aN l 13 (at4 pc k)))=false):blk l pc (n+1) k=aN l 13 (at4 pc k)::blk l pc n (k+1):=by rw[blk,at7 h,at6 (by simp[hl])]
theorem LV (l:List UInt8)(pc:Int)(k:Nat):blk l pc (16-16) k=[]:=rfl
theorem YD (h:bM l 13 pc=false):aN l 13 pc=0:=by unfold aN;rw[h];rfl
theorem agq:Dc.aO 0=0:=an
end Bk
namespace Hh
open Mm Wd
variable{h h':Hv}
structure Rn (h:Hv):Prop where
 z:rg h 0=0
 hd:h.held=false->h.aP=0
 st:h.state=0
 cs:h.cause=0
theorem Al (m:may h=true)(s:h.state=0):Rn h:=by simp only[may,auk]at m;obtain⟨a,b,c⟩:=m;exact⟨a,b,s,ab⟩
def Good (h:Hv) (l:List UInt8) (s:Sv):Prop:=may s.h=true/\s.m.length=l.length/\rg s.h 0=0/\s.out.length<=1/\(s.h.state≠0->{ s.h with state:=h.state,cause:=h.cause }=h/\s.m=l/\s.out=[])
theorem Sd (z:rg h 0=0)(hd:h.held=false->h.aP=0)(s:h.state=0)(c:h.cause=0):may h=true:=by simp only[may,auk];exact⟨z,hd,.inl ⟨.inl s,c⟩⟩
theorem Ao (z:rg h' 0=0)(hd:h'.held=false->h'.aP=0)(s:h'.state=0)(c:h'.cause=0)(hm:m.length=l.length)(ho:out.length<=1):Good h l ⟨h',m,out,av⟩:=⟨Sd z hd s c,hm,z,ho,fun h=>absurd s h⟩
theorem qI (r:Rn h)(l:List UInt8)(c0:1<=c)(c1:c<=6):Good h l ⟨h.trap c,l,[],[]⟩:=by
 refine⟨?_,rfl,r.z,aq,fun _=>⟨?_,rfl,rfl⟩⟩
 ·simp only[may,auk];exact⟨r.z,r.hd,.inr ⟨rfl,c0,c1⟩⟩
 ·cases h;rfl
theorem IB (r:Rn h)(l:List UInt8):Good h l ⟨h.halt,l,[],[]⟩:=by
 refine⟨?_,rfl,r.z,aq,fun _=>⟨?_,rfl,rfl⟩⟩
 ·simp only[may,auk];exact⟨r.z,r.hd,.inl ⟨.inr rfl,r.cs⟩⟩
 ·cases h;rfl
theorem Sg (z:rg h 0=0)(r:Nat)(x:Int):rg (h.set r x) 0=0:=by
 unfold Hv.set;split
 ·exact z
 ·rw[Lr,ak];exact z
theorem LW (h:Hv)(r:Nat)(x:Int):(h.set r x).held=h.held/\(h.set r x).aP=h.aP/\(h.set r x).state=h.state/\(h.set r x).cause=h.cause:=by unfold Hv.set;split<;>exact⟨rfl,rfl,rfl,rfl⟩
theorem cZ (r:Rn h')(res:Option Int)(rd:Nat)(nx:Int)(hm:m.length=l.length)(ho:out.length<=1):Good h l (done ⟨h',m,out,av,res⟩ rd nx):=by
 unfold done Hv.put;cases res with
 |none=>
  simp only;unfold Hv.on;rw[at7 r.st];exact Ao r.z r.hd r.st r.cs hm ho
 |some x=>
  obtain⟨f1,f2,f3,f4⟩:=LW h' rd x;simp only;unfold Hv.on;rw[at7 (f3.trans r.st)];exact Ao (h':=(h'.set rd x).go nx) (Sg r.z rd x) (by show(h'.set rd x).held=false->(h'.set rd x).aP=0;rw[f1,f2];exact r.hd) (f3.trans r.st) (f4.trans r.cs) hm ho
theorem gN (r:Rn h)(l:List UInt8)(c0:1<=c)(c1:c<=6)(rd:Nat)(nx:Int):Good h l (done ⟨h.trap c,l,[],[],none⟩ rd nx):=by unfold done Hv.put Hv.on;simp only;rw[at6 (by show¬(2:Int)=0;omega)];exact qI r l c0 c1
theorem Si (r:Rn h)(a:Int):Rn (h.hold true a):=⟨r.z,fun e=>(by cases e),r.st,r.cs⟩
theorem Au (r:Rn h):Rn (h.hold false 0):=⟨r.z,fun _=>rfl,r.st,r.cs⟩
theorem LX (r:Rn h)(l:List UInt8)(op rd r1 r2 im:Int):Good h l (ins h l op rd r1 r2 im):=by
 unfold ins fT;split
 ·exact cZ r _ _ _ rfl aq
 split
 ·exact cZ r _ _ _ rfl aq
 split
 ·exact cZ r _ _ _ rfl aq
 split
 ·unfold bF;split
  ·exact cZ r _ _ _ rfl aq
  ·exact gN r l ab ab _ _
 split
 ·unfold aH;split
  ·exact cZ r _ _ _ (jZ bo) aq
  ·exact gN r l ab ab _ _
 split
 ·exact cZ r _ _ _ rfl aq
 split
 ·exact cZ r _ _ _ rfl aq
 split
 ·unfold aK;split
  ·unfold gB;split
   ·exact cZ (Si r _) _ _ _ rfl aq
   ·exact gN r l ab ab _ _
  ·split
   ·unfold eU;split
    ·split
     ·exact cZ (Au r) _ _ _ (jZ (bG bo)) aq
     ·exact cZ (Au r) _ _ _ rfl aq
    ·exact gN r l ab ab _ _
   ·unfold iN;split
    ·exact cZ r _ _ _ (jZ (bG bo)) aq
    ·exact gN r l ab ab _ _
 split
 ·unfold bA;split
  ·unfold done Hv.put Hv.on;simp only;rw[at6 (by show¬(1:Int)=0;omega)];exact IB r l
  ·split
   ·exact cZ r _ _ _ rfl aq
   ·exact gN r l ab ab _ _
 split
 ·exact gN r l ab ab _ _
 ·exact cZ r _ _ _ rfl aq
theorem lJ (r:Rn h)(l:List UInt8):Good h l (dV h l):=by
 unfold dV oW;split
 ·split
  ·exact qI r l ab ab
  ·exact LX r l _ _ _ _ _
 ·exact qI r l ab ab
theorem Sj {e:Ev}(o:e.Ok l)(rd:Nat)(w:W nx):(done e rd nx).h.Ok:=acO (YA o.h rd o.res) w
theorem LY (o:h.Ok)(l:List UInt8):(dV h l).h.Ok:=by
 unfold dV oW ins;split
 ·split
  ·exact o.trap 2
  ·exact Sj (De o l (W.reg o _) (W.reg o _) (W.lo _)) _ .qD
 ·exact o.trap 1
end Hh
namespace Ts
open Mm Wd Mi Bk
open Hh hiding Rn
variable{bY last:Int}{h:Hv}{S:Sv}{cnt:Nat}{xs:Nat->Int}{bd:Nat->List Mv}{tail:List Mv}
theorem wM {l':List UInt8}{a:Nat}:∀n,(∀i,a≤i→i<a+n→bv l i=bv l' i)→raw l a n=raw l' a n
 |0,_=>rfl
 |n+1,h=>by
  unfold raw;rw[wM n fun i h1 h2=>h i h1 ab,h (a+n) ab ab]
theorem Sk (h:dX l op p=true)(hp:0<=p)(ha:0<=a)(d:p+(gG op:Int)<=a\/a+4<=p):aN (il l op p x) 13 a=aN l 13 a:=by
 have hl:=Mi.fH (x:=x) h;unfold aN;have e:bM (il l op p x) 13 a=bM l 13 a:=by unfold bM;rw[hl]
 rw[e];split
 ·rename_i q;congr 1;have hq:a+4<=l.length:=by
   unfold bM qy at q;simp only[auk]at q;exact q.2.2
  show raw _ _ 4=raw _ _ 4
  refine wM 4 fun i h1 h2=>?_
  unfold il;rw[at7 h,KY _ _ _ _ _ ab,ak]
 ·rfl
def YE (l:List UInt8) (S:Sv):Prop:=(S.m=l/\S.av=[])\/∃op p x,0<=p/\dX l op p=true/\S.m=il l op p x/\S.av=[(p,((gG op:Nat):Int))]
def EvM (l:List UInt8) (e:Ev):Prop:=(e.m=l/\e.av=[])\/∃op p x,0<=p/\dX l op p=true/\e.m=il l op p x/\e.av=[(p,((gG op:Nat):Int))]
theorem FO:EvM l ⟨h,l,o,[],r⟩:=.inl ⟨rfl,rfl⟩
theorem YF (o:h.Ok)(l:List UInt8){n:Int}(ha:W a):EvM l (fT h l op a b n):=by
 unfold fT;split
 ·exact FO
 split
 ·exact FO
 split
 ·exact FO
 split
 ·unfold bF;split<;>exact FO
 split
 ·unfold aH;split
  ·rename_i q;exact .inr ⟨_,_,_,(W.lo _).1,q,rfl,rfl⟩
  ·exact FO
 split
 ·exact FO
 split
 ·exact FO
 split
 ·unfold aK;split
  ·unfold gB;split<;>exact FO
  split
  ·unfold eU;split
   ·rename_i q;split
    ·exact .inr ⟨18,a,b,ha.1,bG q,rfl,rfl⟩
    ·exact FO
   ·exact FO
  ·unfold iN;split
   ·rename_i q;exact .inr ⟨18,a,_,ha.1,bG q,rfl,rfl⟩
   ·exact FO
 split
 ·unfold bA;split
  ·exact FO
  split<;>exact FO
 split<;>exact FO
theorem FP (o:h.Ok)(l:List UInt8):YE l (dV h l):=by
 unfold dV oW;split
 ·split
  ·exact .inl ⟨rfl,rfl⟩
  ·exact YF (op:=Dc.aO (aN l 13 h.pc)) o l (W.reg o _)
 ·exact .inl ⟨rfl,rfl⟩
structure QX (r s:Mi.Rn):Prop where
 h:r.h=s.h
 m:r.m=s.m
 out:r.out=s.out
 n:r.n=s.n
 av:r.av=s.av
structure Fit (bf bt a:Int) (q:Mi.Rn) (S:Sv) (q':Mi.Rn):Prop where
 ok:q'.Ok
 m:q'.m=S.m
 out:q'.out=q.out++S.out
 av:q'.av=q.av++S.av
 n:q'.n=q.n
 own:q'.own=(q.own ||S.av.any (meet bf bt))
 here:q'.over=false->q'.here=a
 go:(q'.over=true/\q'.h=S.h)\/(q'.over=false/\S.h.state=0/\S.h.pc=lo (a+4)/\q'.h=S.h.go q.h.pc)
def Dh (bf bt steps a x:Int) (body:List Mv):Prop:=∀q:Mi.Rn,q.over=false->q.Ok->q.h.state=0->rg q.h 0=0->q.here=a->q.m.length<=4096->
 Fit bf bt a q (oW (q.h.go a) q.m x) (bB bf bt steps q body)/\((bB bf bt steps q body).over=true->eB (Dc.aO x)=true\/¬(oW (q.h.go a) q.m x).h.state=0)
def Di (bf bt steps a:Int) (tail:List Mv):Prop:=∀q:Mi.Rn,q.over=false->0<q.n->lo (q.here+4)=a->QX (mend (bB bf bt steps q tail)) { q with h:=q.h.go a }
def pz (bY:Int) (bd:Nat→List Mv):Nat→Nat→List Mv
 |0,_=>[]
 |n+1,k=>⟨1,0,0,0,at4 bY k⟩::(bd k++pz bY bd n (k+1))
theorem qJ {r:Mi.Rn}(h:r.over=true):mend r=r:=by unfold mend;rw[at6 (by simp[h])]
theorem LZ (bf bt steps:Int)(q:Mi.Rn)(a:Int):ja bf bt steps q ⟨1,0,0,0,a⟩=Iz steps q a:=by unfold ja;rw[at7 rfl]
theorem AA (h:Hv)(x y:Int):(h.go x).go y=h.go y:=rfl
theorem WQ (h:Hv):h.go h.pc=h:=rfl
theorem L9 (hS:YE l S)(hb:bY<last)(hl:l.length<=4096):S.av.any (vI bY last)=S.av.any (meet bY last):=by
 rcases hS with⟨_,e⟩|⟨op,p,x,hp,ho,_,e⟩
 ·rw[e];rfl
 ·rw[e];simp only[List.any_cons,List.any_nil,Bool.or_false];have hz:0<gG op/\p+(gG op:Int)<=l.length:=by
   unfold dX qy at ho;simp only[auk]at ho;exact⟨ho.1,ho.2.2⟩
  have hlo:lo (p+((gG op:Nat):Int))=p+(gG op:Int):=aqr ab ab;unfold vI meet;simp only[hlo];rw[decide_eq_decide,Int.max_def,Int.min_def];constructor
  ·intro h;(repeat' split)<;>omega
  ·intro h;(repeat' split at h)<;>omega
theorem tZ (hS:YE l S)(hl:l.length<=4096)(hno:S.av.any (vI bY last)=false)(h0:0<=a)(h1:bY<=a)(h2:a+4<=last):aN S.m 13 a=aN l 13 a:=by
 rcases hS with⟨e,_⟩|⟨op,p,x,hp,ho,e,es⟩
 ·rw[e]
 ·rw[e];refine Sk ho hp h0 ?_;rw[es]at hno;simp only[List.any_cons,List.any_nil,Bool.or_false]at hno;have hz:0<gG op/\p+(gG op:Int)<=l.length:=by
   unfold dX qy at ho;simp only[auk]at ho;exact⟨ho.1,ho.2.2⟩
  have hlo:lo (p+((gG op:Nat):Int))=p+(gG op:Int):=aqr ab ab;unfold vI at hno;simp only[hlo,decide_eq_false_iff_not]at hno;omega
structure Sl (l:List UInt8) (bY last:Int) (cnt:Nat) (xs:Nat→Int):Prop where
 pos:0<cnt
 low:0<=bY
 top:bY+4*cnt=last
 len:l.length<=4096
 fit:last<=l.length
 at_:∀j,j<=cnt->at4 bY j=bY+4*j
 ok:∀j,j<cnt->bM l 13 (at4 bY j)=true
 op:∀j,j<cnt->¬Dc.aO (xs j)=0
 fin:∀j,j<cnt->eB (Dc.aO (xs j))=true->j+1=cnt
structure Rel (bY steps:Int) (k:Nat) (q r:Mi.Rn):Prop where
 over:q.over=false
 ok:q.Ok
 may:may r.h=true
 st:r.h.state=0
 h:r.h=q.h.go (at4 bY k)
 m:r.m=q.m
 out:r.out=q.out
 n:r.n=q.n
 av:r.av=q.av
 own:q.own=false
 le:(q.n:Int)<=steps
 beg:k=0\/(0<q.n/\lo (q.here+4)=at4 bY k)
theorem AB (B:Sl l bY last cnt xs)(hb:∀j,j<cnt->Dh bY last steps (at4 bY j) (xs j) (bd j))(ht:Di bY last steps (at4 bY cnt) tail):
  ∀(n k:Nat) (q r:Mi.Rn),k+n=cnt->Rel bY steps k q r->(∀j,k<=j->j<cnt->aN r.m 13 (at4 bY j)=xs j)->r.m.length=l.length->QX (mend (bB bY last steps q (pz bY bd n k++tail))) (FE bY last steps n k r)
 |0,k,q,r,hk,R,_,_=>by
  have hkc:k=cnt:=ab;have hp:=B.pos;rcases R.beg with h0|⟨h1,h2⟩
  ·omega
  ·have e:=ht q R.over h1 (by rw[h2,hkc]);show QX (mend (bB bY last steps q tail)) r
   refine⟨?_,?_,?_,?_,?_⟩
   ·rw[e.h,R.h,hkc]
   ·rw[e.m,R.m]
   ·rw[e.out,R.out]
   ·rw[e.n,R.n]
   ·rw[e.av,R.av]
 |n+1,k,q,r,hk,R,hw,hlen=>by
  have hkc:k<cnt:=ab;have ha:=B.at_ k ab;have ha1:=B.at_ (k+1) ab;have hlow:=B.low;have htop:=B.top;have hfit:=B.fit;have hll:=B.len;have e0:bB bY last steps q (pz bY bd (n+1) k++tail)=bB bY last steps (Iz steps q (at4 bY k)) (bd k++(pz bY bd n (k+1)++tail)):=by
   show bB bY last steps q (⟨1,0,0,0,at4 bY k⟩::((bd k++pz bY bd n (k+1))++tail))=_
   rw[bB,at6 (by simp[R.over]),LZ,aqa]
  rw[e0];by_cases hn:(q.n:Int)=steps
  ·have e1:Iz steps q (at4 bY k)=q.stop (at4 bY k):=by unfold Iz;rw[at7 (.inl hn)]
   have e2:FE bY last steps (n+1) k r=r:=by unfold FE;rw[at6 (by rw[R.n];omega)]
   rw[e1,eY _ _ _ rfl,qJ rfl,e2];exact⟨R.h.symm,R.m.symm,R.out.symm,R.n.symm,R.av.symm⟩
  ·have e1:Iz steps q (at4 bY k)={ q with n:=q.n+1,here:=at4 bY k }:=by unfold Iz;rw[at6 (by simp[hn,R.own])]
   rw[e1,fJ];have hbd:=yn bY k;have okq:Mi.Rn.Ok { q with n:=q.n+1,here:=at4 bY k }:=⟨R.ok.h,R.ok.tl,R.ok.tb,hbd.1,hbd.2⟩;have hst:q.h.state=0:=by have:=R.st;rw[R.h]at this;exact this
   have hrn:Hh.Rn r.h:=Al R.may R.st;have hz:rg q.h 0=0:=by have:=hrn.z;rw[R.h]at this;exact this
   have okr:r.h.Ok:=by rw[R.h];exact R.ok.h.go hbd.1 hbd.2
   obtain⟨F,FL⟩:=hb k hkc { q with n:=q.n+1,here:=at4 bY k } R.over okq hst hz rfl (by show q.m.length<=4096;rw[<-R.m,hlen];exact hll);have hpc:r.h.pc=at4 bY k:=by rw[R.h];rfl
   have eS:dV r.h r.m=oW (q.h.go (at4 bY k)) q.m (xs k):=by
    unfold dV;have hok:bM r.m 13 r.h.pc=true:=by
     rw[hpc];have:=B.ok k hkc;unfold bM at this ⊢;rw[hlen];exact this
    rw[at7 hok,hpc,hw k (apn _) hkc,R.h,R.m]
   have gS:=lJ hrn r.m;have mS:=FP okr r.m;rw[<-show dV r.h r.m=oW (({ q with n:=q.n+1,here:=at4 bY k }:Mi.Rn).h.go (at4 bY k)) ({ q with n:=q.n+1,here:=at4 bY k }:Mi.Rn).m (xs k)from eS]at F FL;have agr:FE bY last steps (n+1) k r=if wK bY last k (dV r.h r.m)=true then b1 r else FE bY last steps n (k+1) (b1 r):=by
    rw[FE,at7];have:=R.le;rw[R.n];omega
   rw[agr];have Md:lo (at4 bY k+4)=at4 bY (k+1):=by
    rw[ha,ha1];have:lo (bY+4*(k:Int)+4)=bY+4*(k:Int)+4:=aqr ab ab;rw[this];omega
   have ags:Wd.lo (bY+(4*(k:Int)+4))=at4 bY (k+1):=by
    rw[<-Md,ha];congr 1;omega
   have WR:=L9 mS (bY:=bY) (last:=last) ab (by rw[hlen];exact hll);generalize hq':bB bY last steps { q with n:=q.n+1,here:=at4 bY k } (bd k)=q' at *
   have eqb:q'.h=(dV r.h r.m).h->QX q' (b1 r):=fun e=>⟨e,F.m,by rw[F.out];show q.out++_=r.out++_;rw[R.out],by rw[F.n];show q.n+1=r.n+1;rw[R.n],by rw[F.av];show q.av++_=r.av++_;rw[R.av]⟩
   rcases F.go with⟨g1,g2⟩|⟨g1,g2,g3,g4⟩
   ·rw[eY _ _ _ g1,qJ g1];have hE:=eqb g2;split
    ·exact hE
    ·rename_i hbs;have hs0:(dV r.h r.m).h.state=0:=by
      unfold wK at hbs;simp only[aqV,auk,not_or,Classical.not_not]at hbs;exact hbs.1
     have hfin:k+1=cnt:=by
      rcases FL g1 with h|h
      ·exact B.fin k hkc h
      ·exact absurd hs0 h
     have hn0:n=0:=ab;subst hn0;exact hE
   ·have hS4:q'.h.go (at4 bY (k+1))=(dV r.h r.m).h:=by
     rw[g4,AA,<-Md,<-g3,WQ]
    have hbs:wK bY last k (dV r.h r.m)=(dV r.h r.m).av.any (vI bY last):=by
     unfold wK;rw[auh (by simp[g2]),auh (by rw[ags,<-Md];simp[g3])];simp
    have acR:=F.here g1;have hnn:0<q'.n:=by rw[F.n];exact Nat.succ_pos _
    have hEg:∀s:Mi.Rn,QX s { q' with h:=q'.h.go (at4 bY (k+1)) }->QX s (b1 r):=fun s e=>by
     refine⟨?_,?_,?_,?_,?_⟩
     ·rw[e.h];exact hS4
     ·rw[e.m];exact F.m
     ·rw[e.out];show q'.out=_;rw[F.out];show q.out++_=r.out++_;rw[R.out]
     ·rw[e.n];show q'.n=_;rw[F.n];show q.n+1=r.n+1;rw[R.n]
     ·rw[e.av];show q'.av=_;rw[F.av];show q.av++_=r.av++_;rw[R.av]
    rw[hbs];split
    ·rename_i hh;have hown:q'.own=true:=by rw[F.own,<-WR,hh];simp
     cases n with
     |zero=>
      have hc1:k+1=cnt:=ab;refine hEg _ ?_;rw[hc1];exact ht q' g1 hnn (by rw[acR,Md,hc1])
     |succ n'=>
      refine hEg _ ?_;show QX (mend (bB bY last steps q' (⟨1,0,0,0,at4 bY (k+1)⟩::((bd (k+1)++pz bY bd n' (k+1+1))++tail)))) _
      rw[bB,at6 (by simp[g1]),LZ];have e3:Iz steps q' (at4 bY (k+1))=q'.stop (at4 bY (k+1)):=by unfold Iz;rw[at7 (.inr hown)]
      rw[e3,eY _ _ _ rfl,qJ rfl];exact⟨rfl,rfl,rfl,rfl,rfl⟩
    ·rename_i hh;have hno:(dV r.h r.m).av.any (vI bY last)=false:=by simpa using hh
     have hown:q'.own=false:=by rw[F.own,<-WR,hno];show(q.own ||false)=false;rw[R.own];rfl
     refine AB B hb ht n (k+1) q' (b1 r) ab ⟨g1,F.ok,gS.1,g2,hS4.symm,F.m.symm,by rw[F.out];show r.out++_=q.out++_;rw[R.out],by rw[F.n];show r.n+1=q.n+1;rw[R.n],by rw[F.av];show r.av++_=q.av++_;rw[R.av],hown,?_,.inr ⟨hnn,by rw[acR];exact Md⟩⟩ ?_ ?_
     ·rw[F.n];have:=R.le;show((q.n+1:Nat):Int)<=steps
      omega
     ·intro j hj1 hj2;have haj:=B.at_ j ab;show aN (dV r.h r.m).m 13 (at4 bY j)=xs j
      rw[tZ mS (bY:=bY) (last:=last) (by rw[hlen];exact hll) hno ab ab ab];exact hw j ab hj2
     ·show(dV r.h r.m).m.length=l.length
      rw[gS.2.1,hlen]
theorem IC (B : Sl l bY last cnt xs) (hb : ∀ j, j < cnt → Dh bY last steps (at4 bY j) (xs j) (bd j)) (ht : Di bY last steps (at4 bY cnt) tail)(o :h.Ok) (hm :may h =true) (hs :h.state =0) (hp :h.pc =bY) (h0 :0 <= steps) (hx : ∀ j, j < cnt -> aN l 13 (at4 bY j) =xs j) :QX (dC bY last steps h l (pz bY bd cnt 0 ++ tail)) (FE bY last steps cnt 0 (mstart h l)) :=by
  have e :at4 bY 0 =bY :=by have :=B.at_ 0 (apF _); simpa using this
  refine AB B hb ht cnt 0 (mstart h l) (mstart h l) (apu _) ⟨rfl, (Gd.start (bf :=bY) (bt :=last) o hs B.len).ok, hm, hs, ?_, rfl, rfl, rfl, rfl, rfl, by simpa[mstart]using h0, .inl rfl⟩ (fun j _ hj => hx j hj) rfl;rw[e, <- hp];rfl
theorem tail_nil (bf bt steps a:Int):Di bf bt steps a []:=fun q ho hn hh=>by
 show QX (mend q) _
 unfold mend;rw[at7 ⟨ho,hn⟩,hh];exact⟨rfl,rfl,rfl,rfl,rfl⟩
end Ts
namespace Ts
open Mm Wd Mi Bk
open Hh hiding Rn
variable{q:Mi.Rn}{S:Sv}
def iy (bf bt steps a op rd r1 r2 im:Int) (body:List Mv):Prop:=∀q:Mi.Rn,q.over=false->q.Ok->q.h.state=0->rg q.h 0=0->q.here=a->q.m.length<=4096->
 Fit bf bt a q (ins (q.h.go a) q.m op rd r1 r2 im) (bB bf bt steps q body)/\((bB bf bt steps q body).over=true->eB op=true\/¬(ins (q.h.go a) q.m op rd r1 r2 im).h.state=0)
theorem Sm {body:List Mv}(hx:¬Dc.aO x=0)(h:iy bf bt steps a (Dc.aO x) (Dc.iF (Dc.aJ (Dc.aO x)) x) (Dc.bZ (Dc.aJ (Dc.aO x)) x) (Dc.bV (Dc.aJ (Dc.aO x)) x) (Dc.bS (Dc.aJ (Dc.aO x)) x) body):Dh bf bt steps a x body:=fun q h1 h2 h3 h4 h5 h6=>by have:=h q h1 h2 h3 h4 h5 h6;unfold oW;rw[at6 hx];exact this
theorem fF (ho:q.over=false)(i:Mv):bB bf bt steps q [i]=ja bf bt steps q i:=by rw[bB,at6 (by simp[ho]),bB]
theorem qK {q':Mi.Rn}{X:Hv}{o:List Int}{s:List (Int×Int)}(hS:S=⟨X.go (lo (a+4)),q'.m,o,s⟩)(hq:q'.Ok)(ov:q'.over=false)(hh:q'.here=a)(hX:q'.h=X)(hpc:X.pc=q.h.pc)(hst:X.state=0)(ho:q'.out=q.out++o)(hs:q'.av=q.av++s)(hn:q'.n=q.n)(hw:q'.own=(q.own ||s.any (meet bf bt))):Fit bf bt a q S q':=by subst hS;exact⟨hq,rfl,ho,hs,hn,hw,fun _=>hh,.inr ⟨ov,hst,rfl,by rw[hX];show X=(X.go _).go _;rw[AA,<-hpc,WQ]⟩⟩
theorem sI {q':Mi.Rn}{o:List Int}{s:List (Int×Int)}(hS:S=⟨q'.h,q'.m,o,s⟩)(hq:q'.Ok)(ov:q'.over=true)(ho:q'.out=q.out++o)(hs:q'.av=q.av++s)(hn:q'.n=q.n)(hw:q'.own=(q.own ||s.any (meet bf bt))):Fit bf bt a q S q':=by subst hS;exact⟨hq,rfl,ho,hs,hn,hw,fun h=>(by rw[ov]at h;cases h),.inl ⟨ov,rfl⟩⟩
theorem Me (Y:Hv)(a:Int)(r:Nat)(x:Option Int):(Y.go a).put r x=(Y.put r x).go a:=by
 cases x with
 |none=>rfl
 |some x=>
  show(Y.go a).set r x=(Y.set r x).go a
  unfold Hv.set;split<;>rfl
theorem qL (Y:Hv)(r:Nat)(x:Option Int):(Y.put r x).state=Y.state/\(Y.put r x).pc=Y.pc:=by
 cases x with
 |none=>exact⟨rfl,rfl⟩
 |some x=>
  show(Y.set r x).state=Y.state/\(Y.set r x).pc=Y.pc
  unfold Hv.set;split<;>exact⟨rfl,rfl⟩
theorem uf {h Y:Hv}{m:List UInt8}{o:List Int}{res:Option Int}(hE:fT (h.go a) l op (rg h r1.toNat) (rg h r2.toNat) (lo im)=⟨Y.go a,m,o,s,res⟩)(hY:Y.state=0)(hx:¬op=3/\¬op=4/\(op<5\/10<op)):ins (h.go a) l op rd r1 r2 im=⟨(Y.put rd.toNat res).go (lo (a+4)),m,o,s⟩:=by
 have e:ins (h.go a) l op rd r1 r2 im=done (fT (h.go a) l op (rg h r1.toNat) (rg h r2.toNat) (lo im)) rd.toNat (qD (h.go a) op (rg h r1.toNat) (rg h r2.toNat) (lo im)):=rfl;have en:qD (h.go a) op (rg h r1.toNat) (rg h r2.toNat) (lo im)=lo (a+4):=by
  unfold qD;rw[at6 hx.2.1,at6 (by rw[Ak hx.2.2];simp[hx.1])];rfl
 rw[e,hE,en];unfold done;simp only;rw[Me];unfold Hv.on;rw[at7 (by show(Y.put rd.toNat res).state=0;rw[(qL _ _ _).1];exact hY),AA]
theorem AJ {h Y:Hv}{rd:Int}(hE:fT (h.go a) l op (rg h r1.toNat) (rg h r2.toNat) (lo im)=⟨Y.go a,m,o,s,none⟩)(hY:¬Y.state=0):ins (h.go a) l op rd r1 r2 im=⟨Y.go a,m,o,s⟩:=by have e:ins (h.go a) l op rd r1 r2 im=done (fT (h.go a) l op (rg h r1.toNat) (rg h r2.toNat) (lo im)) rd.toNat (qD (h.go a) op (rg h r1.toNat) (rg h r2.toNat) (lo im)):=rfl;rw[e,hE];unfold done Hv.put Hv.on;simp only;rw[at6 (by show¬Y.state=0;exact hY)]
theorem fV (q:Mi.Rn)(h:k<32):q.get k=rg q.h k.toNat:=by unfold Rn.get;rw[at7 h]
theorem kN (q:Mi.Rn)(h:k<32)(x:Int):q.put k x={ q with h:=q.h.set k.toNat x }:=by unfold Rn.put;rw[ak]
theorem pE (ok:q.Ok)(ov:q.over=false)(st:q.h.state=0)(hh:q.here=a)(hr:rd<32)(wx:W x)(hE:fT (q.h.go a) q.m op (rg q.h r1.toNat) (rg q.h r2.toNat) (lo im)=⟨q.h.go a,q.m,[],[],some x⟩)(hx:¬op=3/\¬op=4/\(op<5\/10<op)):Fit bf bt a q (ins (q.h.go a) q.m op rd r1 r2 im) (q.put rd x):=by
 have WS:=ok.put rd wx;rw[kN q hr]at WS ⊢;refine qK (X:=q.h.set rd.toNat x) (o:=[]) (s:=[]) (uf (res:=some x) hE st hx) WS ov hh rfl ?_ ?_ aq aq rfl aq
 ·exact(qL q.h rd.toNat (some x)).2
 ·exact(qL q.h rd.toNat (some x)).1.trans st
theorem pF {bf bt a op:Int}(ov:q.over=false):(q.put rd x).over=true->P:=fun h=>by
 have:(q.put rd x).over=q.over:=by unfold Rn.put;split<;>rfl
 rw[this,ov]at h;cases h
theorem jg {bf bt rd c:Int}(ok:q.Ok)(hh:q.here=a)(hE:fT (q.h.go a) q.m op (rg q.h r1.toNat) (rg q.h r2.toNat) (lo im)=⟨(q.h.trap c).go a,q.m,[],[],none⟩):Fit bf bt a q (ins (q.h.go a) q.m op rd r1 r2 im) (q.trap c)/\¬(ins (q.h.go a) q.m op rd r1 r2 im).h.state=0:=by
 have e:=AJ (rd:=rd) hE (by simp[Hv.trap]);refine⟨sI (o:=[]) (s:=[]) ?_ (ok.trap c) rfl (by simp[Rn.trap]) (by simp[Rn.trap]) rfl (by simp[Rn.trap]),?_⟩
 ·rw[e];show _=(⟨(q.h.trap c).go q.here,q.m,[],[]⟩:Sv)
  rw[hh]
 ·rw[e];simp[Hv.trap,Hv.go]
section
theorem AL (x:Int)(hr:rd<32)(wx:W x)(hE:∀(h:Hv) (l:List UInt8),fT (h.go a) l op (rg h r1.toNat) (rg h r2.toNat) (lo im)=⟨h.go a,l,[],[],some x⟩)(hx:¬op=3/\¬op=4/\(op<5\/10<op)):iy bf bt steps a op rd r1 r2 im [⟨2,rd,0,0,x⟩]:=fun q ov ok st z hh hl=>by
 rw[fF ov];have e:ja bf bt steps q ⟨2,rd,0,0,x⟩=q.put rd x:=by unfold ja;rw[at6 aq,at7 rfl]
 rw[e];exact⟨pE ok ov st hh hr wx (hE _ _) hx,pF (op:=op) (bf:=bf) (bt:=bt) (a:=a) ov⟩
theorem Mf (hr:rd<32)(ho:op=1):iy bf bt steps a op rd r1 r2 im [⟨2,rd,0,0,lo im⟩]:=AL _ hr (W.lo _) (fun h l=>by subst ho;unfold fT;rw[at7 rfl]) ab
theorem Dj (hr:rd<32)(ho:op=2):iy bf bt steps a op rd r1 r2 im [⟨2,rd,0,0,lo (a+lo im)⟩]:=AL _ hr (W.lo _) (fun h l=>by subst ho;unfold fT;rw[ak,at7 rfl];rfl) ab
theorem Mg (hr:rd<32)(h1:r1<32)(h2:r2<32)(ho:28<=op/\op<=45):iy bf bt steps a op rd r1 r2 im [⟨400+op,rd,r1,r2,0⟩]:=fun q ov ok st z hh hl=>by rw[fF ov,gM (c:=400) (k:=op) ab ab rfl ab];unfold vH;rw[ak,ak,ak,at7 rfl];simp only[fV q h1,fV q h2];refine⟨pE ok ov st hh hr (W.eT (ok.h.reg _) (ok.h.reg _)) ?_ ab,pF (op:=op) (bf:=bf) (bt:=bt) (a:=a) ov⟩;unfold fT;rw[ak,ak,ak,ak,ak,ak,at7 ho]
theorem Mj (hr:rd<32)(h1:r1<32)(ho:19<=op/\op<=27):iy bf bt steps a op rd r1 r2 im [⟨500+opn op,rd,r1,0,lo im⟩]:=fun q ov ok st z hh hl=>by
 have hop:28<=opn op/\opn op<=45:=by unfold opn;(repeat' split)<;>omega
 rw[fF ov,gM (c:=500) (k:=opn op) ab ab rfl ab];unfold vH;rw[ak,ak,ak,ak,at7 rfl];simp only[fV q h1];refine⟨pE ok ov st hh hr (W.eT (ok.h.reg _) (W.lo _)) ?_ ab,pF (op:=op) (bf:=bf) (bt:=bt) (a:=a) ov⟩;unfold fT;rw[ak,ak,ak,ak,ak,at7 ho]
theorem Sn (hr:rd<32)(h1:r1<32)(ho:11<=op/\op<=15):iy bf bt steps a op rd r1 r2 im [⟨200+op,rd,r1,0,lo im⟩]:=fun q ov ok st z hh hl=>by
 rw[fF ov,gM (c:=200) (k:=op) ab ab rfl ab];unfold vH;rw[ak,at7 rfl];simp only[fV q h1];have hE:fT (q.h.go a) q.m op (rg q.h r1.toNat) (rg q.h r2.toNat) (lo im)=bF (q.h.go a) q.m op (lo (rg q.h r1.toNat+lo im)):=by
  unfold fT;rw[ak,ak,ak,at7 ho]
 unfold Ag;by_cases hk:bM q.m op (lo (rg q.h r1.toNat+lo im))=true
 ·rw[at7 hk];refine⟨pE ok ov st hh hr (W.aN _ _ _) ?_ ab,pF (op:=op) (bf:=bf) (bt:=bt) (a:=a) ov⟩;rw[hE];unfold bF;rw[at7 hk]
 ·rw[at6 hk];have t:=jg (bf:=bf) (bt:=bt) (rd:=rd) (c:=3) ok hh (r1:=r1) (r2:=r2) (im:=im) (op:=op) (by rw[hE];unfold bF;rw[at6 hk];rfl);exact⟨t.1,fun _=>.inr t.2⟩
theorem yt (hl:l.length<=4096)(hp:0<=p)(h:dX l op p=true):hits bf bt p (gG op)=meet bf bt (p,((gG op:Nat):Int)):=by
 have hz:p+(gG op:Int)<=l.length:=by
  unfold dX qy at h;simp only[auk]at h;exact h.2.2
 exact wL hp ab (qz _)
theorem Su (h1:r1<32)(h2:r2<32)(ho:16<=op/\op<=18):iy bf bt steps a op rd r1 r2 im [⟨300+op,0,r1,r2,lo im⟩]:=fun q ov ok st z hh hl=>by
 rw[fF ov,gM (c:=300) (k:=op) ab ab rfl ab];unfold vH;rw[ak,ak,at7 rfl];simp only[fV q h1,fV q h2];have hE:fT (q.h.go a) q.m op (rg q.h r1.toNat) (rg q.h r2.toNat) (lo im)=aH (q.h.go a) q.m op (lo (rg q.h r1.toNat+lo im)) (rg q.h r2.toNat):=by
  unfold fT;rw[ak,ak,ak,ak,at7 ho]
 unfold tV;by_cases hk:dX q.m op (lo (rg q.h r1.toNat+lo im))=true
 ·rw[at7 hk];have hm:=yt (bf:=bf) (bt:=bt) hl (W.lo _).1 hk;refine⟨qK (X:=q.h) (o:=[]) (s:=[(lo (rg q.h r1.toNat+lo im),((gG op:Nat):Int))]) ?_ ((ok.mem _).stored _ _ _ _) ov hh rfl rfl st (by simp[Rn.stored]) rfl rfl (by simp[Rn.stored,hm]),fun h=>?_⟩
  ·rw[uf (Y:=q.h) (res:=none) (m:=il q.m op (lo (rg q.h r1.toNat+lo im)) (rg q.h r2.toNat)) (o:=[]) (s:=[(lo (rg q.h r1.toNat+lo im),((gG op:Nat):Int))]) (by rw[hE];unfold aH;rw[at7 hk]) st ab];rfl
  ·have:q.over=true:=h;rw[ov]at this;cases this
 ·rw[at6 hk];have t:=jg (bf:=bf) (bt:=bt) (rd:=rd) (c:=4) ok hh (r1:=r1) (r2:=r2) (im:=im) (op:=op) (by rw[hE];unfold aH;rw[at6 hk];rfl);exact⟨t.1,fun _=>.inr t.2⟩
theorem Dk (ho:op=57):iy bf bt steps a op rd r1 r2 im []:=fun q ov ok st z hh hl=>by
 have hE:fT (q.h.go a) q.m op (rg q.h r1.toNat) (rg q.h r2.toNat) (lo im)=⟨q.h.go a,q.m,[],[],none⟩:=by
  unfold fT;rw[ak,ak,ak,ak,ak,ak,ak,ak,ak,ak]
 refine⟨qK (X:=q.h) (o:=[]) (s:=[]) ?_ ok ov hh rfl rfl st (by simp[bB]) (by simp[bB]) rfl (by simp[bB]),fun h=>?_⟩
 ·rw[uf (Y:=q.h) (res:=none) hE st ab];rfl
 ·have:q.over=true:=h;rw[ov]at this;cases this
theorem Dl (ho:op=59):iy bf bt steps a op rd r1 r2 im [⟨6,0,0,0,0⟩]:=fun q ov ok st z hh hl=>by
 rw[fF ov];have e:ja bf bt steps q ⟨6,0,0,0,0⟩=q.trap 6:=by unfold ja;rw[at6 aq,at6 aq,at6 aq,at6 aq,at6 aq,at7 rfl]
 rw[e];have t:=jg (bf:=bf) (bt:=bt) (rd:=rd) (c:=6) ok hh (r1:=r1) (r2:=r2) (im:=im) (op:=op) (by unfold fT;rw[ak,ak,ak,ak,ak,ak,ak,ak,ak,at7 ho];rfl);exact⟨t.1,fun _=>.inr t.2⟩
theorem IE (ho:op=58):iy bf bt steps a op rd r1 r2 im [⟨5,0,0,0,0⟩]:=fun q ov ok st z hh hl=>by
 rw[fF ov];have e:ja bf bt steps q ⟨5,0,0,0,0⟩=tX q:=by unfold ja;rw[at6 aq,at6 aq,at6 aq,at6 aq,at7 rfl]
 rw[e];have hE:fT (q.h.go a) q.m op (rg q.h r1.toNat) (rg q.h r2.toNat) (lo im)=bA (q.h.go a) q.m:=by
  unfold fT;rw[ak,ak,ak,ak,ak,ak,ak,ak,at7 ho]
 unfold tX;unfold bA at hE;have hrg:∀k,rg (q.h.go a) k=rg q.h k:=fun _=>rfl
 rw[hrg,hrg]at hE;by_cases h0:rg q.h 17=0
 ·rw[at7 h0]at hE ⊢;have e2:=AJ (rd:=rd) (Y:=q.h.halt) hE (by simp[Hv.halt]);refine⟨sI (o:=[]) (s:=[]) ?_ ⟨ok.h.halt.go ok.h0 ok.h1,ok.tl,ok.tb,ok.h0,ok.h1⟩ rfl aq aq rfl aq,fun _=>.inr ?_⟩
  ·rw[e2];show _=(⟨q.h.halt.go q.here,q.m,[],[]⟩:Sv)
   rw[hh]
  ·rw[e2];simp[Hv.halt,Hv.go]
 rw[at6 h0]at hE ⊢;by_cases h1:rg q.h 17=1
 ·rw[at7 h1]at hE ⊢;refine⟨qK (X:=q.h) (o:=[rg q.h 10]) (s:=[]) ?_ ⟨ok.h,ok.tl,ok.tb,ok.h0,ok.h1⟩ ov hh rfl rfl st rfl aq rfl aq,fun h=>?_⟩
  ·rw[uf (Y:=q.h) (res:=none) hE st ab];rfl
  ·have:q.over=true:=h;rw[ov]at this;cases this
 ·rw[at6 h1]at hE ⊢;have t:=jg (bf:=bf) (bt:=bt) (rd:=rd) (c:=5) ok hh (r1:=r1) (r2:=r2) (im:=im) (op:=op) hE;exact⟨t.1,fun _=>.inr t.2⟩
end
end Ts
namespace Ts
open Mm Wd Mi Bk
open Hh hiding Rn
section
variable{q:Mi.Rn}
theorem Sw (h1:r1<32)(h2:r2<32)(ho:5<=op/\op<=10):iy bf bt steps a op rd r1 r2 im [⟨100+op,0,r1,r2,lo (a+lo im)⟩]:=fun q ov ok st z hh hl=>by
 rw[fF ov,gM (c:=100) (k:=op) ab ab rfl ab];unfold vH;rw[at7 rfl];simp only[fV q h1,fV q h2];have hE:fT (q.h.go a) q.m op (rg q.h r1.toNat) (rg q.h r2.toNat) (lo im)=⟨q.h.go a,q.m,[],[],none⟩:=by
  unfold fT;rw[ak,ak,ak,ak,ak,ak,ak,ak,ak,ak]
 have e:ins (q.h.go a) q.m op rd r1 r2 im=done (fT (q.h.go a) q.m op (rg q.h r1.toNat) (rg q.h r2.toNat) (lo im)) rd.toNat (qD (q.h.go a) op (rg q.h r1.toNat) (rg q.h r2.toNat) (lo im)):=rfl;rw[e,hE];have ed:∀x,done ⟨q.h.go a,q.m,[],[],none⟩ rd.toNat x=⟨q.h.go x,q.m,[],[]⟩:=fun x=>by
  unfold done Hv.put Hv.on;simp only;rw[at7 (by show q.h.state=0;exact st),AA]
 rw[ed];have hlast:eB op=true:=by unfold eB;exact auq ab
 by_cases hk:holds op (rg q.h r1.toNat) (rg q.h r2.toNat)=true
 ·rw[at7 hk];have en:qD (q.h.go a) op (rg q.h r1.toNat) (rg q.h r2.toNat) (lo im)=lo (a+lo im):=by
   unfold qD;rw[ak,at7 (.inr hk)];rfl
  rw[en];exact⟨sI (o:=[]) (s:=[]) rfl (ok.stop (W.lo _)) rfl (by simp[Rn.stop]) (by simp[Rn.stop]) rfl (by simp[Rn.stop]),fun _=>.inl hlast⟩
 ·rw[at6 hk];have en:qD (q.h.go a) op (rg q.h r1.toNat) (rg q.h r2.toNat) (lo im)=lo (a+4):=by
   unfold qD;rw[ak,at6 (by simp[hk];omega)];rfl
  rw[en];exact⟨qK (X:=q.h) (o:=[]) (s:=[]) rfl ok ov hh rfl rfl st aq aq rfl aq,fun _=>.inl hlast⟩
theorem AO {q':Mi.Rn}{x pc:Int}(ok:q'.Ok)(st:q.h.state=0)(ov:q'.over=true)(hE:fT (q.h.go a) q.m op (rg q.h r1.toNat) (rg q.h r2.toNat) (lo im)=⟨q.h.go a,q.m,[],[],some x⟩)(hN:qD (q.h.go a) op (rg q.h r1.toNat) (rg q.h r2.toNat) (lo im)=pc)(hh:q'.h=(q.h.set rd.toNat x).go pc)(hm:q'.m=q.m)(ho:q'.out=q.out)(hs:q'.av=q.av)(hn:q'.n=q.n)(hw:q'.own=q.own):Fit bf bt a q (ins (q.h.go a) q.m op rd r1 r2 im) q':=by have e:ins (q.h.go a) q.m op rd r1 r2 im=done (fT (q.h.go a) q.m op (rg q.h r1.toNat) (rg q.h r2.toNat) (lo im)) rd.toNat (qD (q.h.go a) op (rg q.h r1.toNat) (rg q.h r2.toNat) (lo im)):=rfl;refine sI (o:=[]) (s:=[]) ?_ ok ov (by simp[ho]) (by simp[hs]) hn (by simp[hw]);rw[e,hE,hN];unfold done;simp only;rw[Me];unfold Hv.on;rw[at7 (by show(q.h.put rd.toNat (some x)).state=0;rw[(qL _ _ _).1];exact st),AA,hh,hm];rfl
theorem Mk (ho:q.over=false)(i:Mv)(is:List Mv):bB bf bt steps q (i::is)=bB bf bt steps (ja bf bt steps q i) is:=by rw[bB,at6 (by simp[ho])]
theorem lK (q:Mi.Rn)(k x:Int):(q.put k x).over=q.over:=by unfold Rn.put;split<;>rfl
theorem FQ (d x:Int):ja bf bt steps q ⟨2,d,0,0,x⟩=q.put d x:=by unfold ja;rw[at6 aq,at7 rfl]
theorem YG (x:Int):ja bf bt steps q ⟨3,0,0,0,x⟩=q.stop x:=by unfold ja;rw[at6 aq,at6 aq,at7 rfl]
theorem Sy (r x:Int):ja bf bt steps q ⟨4,0,r,0,x⟩=q.stop (lo (q.get r+x)-lo (q.get r+x)%2):=by unfold ja;rw[at6 aq,at6 aq,at6 aq,at7 rfl]
theorem Sz (d r x:Int):ja bf bt steps q ⟨528,d,r,0,x⟩=q.put d (eT 28 (q.get r) x):=by rw[gM (c:=500) (k:=28) ab ab rfl ab];unfold vH;rw[ak,ak,ak,ak,at7 rfl]
theorem FR (x y:Int):eT 28 x y=lo (x+y):=by unfold eT;rw[at7 rfl]
theorem WT (h:W x):lo x=x:=aqr h.1 h.2
theorem Ml (hr:rd<32)(ho:op=3):iy bf bt steps a op rd r1 r2 im [⟨2,rd,0,0,lo (a+4)⟩,⟨3,0,0,0,lo (a+lo im)⟩]:=fun q ov ok st z hh hl=>by
 subst ho;rw[Mk ov,FQ,fF (by rw[lK];exact ov),YG];refine⟨?_,fun _=>.inl rfl⟩;have WS:=ok.put rd (W.lo (a+4));rw[kN q hr]at WS ⊢;refine AO (x:=lo (a+4)) (pc:=lo (a+lo im)) (WS.stop (W.lo _)) st rfl ?_ ?_ rfl rfl rfl rfl rfl rfl
 ·unfold fT;rw[ak,ak,dU];rfl
 ·unfold qD;rw[ak,at7 (.inl rfl)];rfl
theorem Ms (h:Hv)(l:List UInt8)(A B n:Int):fT (h.go a) l 4 A B n=⟨h.go a,l,[],[],some (lo (a+4))⟩:=by unfold fT;rw[ak,ak,dU];rfl
theorem Mt (h:Hv)(A B n:Int):qD (h.go a) 4 A B n=lo (A+n)-lo (A+n)%2:=by unfold qD;rw[at7 rfl]
theorem acS (x:Int):W (lo x-lo x%2):=by have:=W.lo x;unfold W at *;omega
theorem MC (q:Mi.Rn)(h:32<=k)(x:Int):q.put k x={ q with tm:=q.tm.set (k-32).toNat x }:=by unfold Rn.put;rw[at7 h]
theorem YH (ok:q.Ok)(h0:32<=t)(h1:t<36)(x:Int):(q.put t x).get t=x:=by
 rw[MC q h0];unfold Rn.get;rw[ak];show(q.tm.set (t-32).toNat x).getD (t-32).toNat 0=x
 rw[LQ,at7 ⟨rfl,by rw[ok.tl];omega⟩]
theorem Dn (q:Mi.Rn)(h0:32<=t)(hk:k<32)(x y:Int):(q.put k x).get t=q.get t:=by rw[kN q hk];unfold Rn.get;rw[ak,ak]
theorem Dp (t:Int)(h0:32<=t)(h1:t<36)(hr:rd<32)(hr1:r1<32)(ho:op=4):iy bf bt steps a op rd r1 r2 im [⟨528,t,r1,0,lo im⟩,⟨2,rd,0,0,lo (a+4)⟩,⟨4,0,t,0,0⟩]:=fun q ov ok st z hh hl=>by
 subst ho;have eA:eT 28 (q.get r1) (lo im)=lo (rg q.h r1.toNat+lo im):=by rw[FR,fV q hr1]
 rw[Mk ov,Sz,eA];have ok1:=ok.put t (W.lo (rg q.h r1.toNat+lo im));rw[Mk (by rw[lK];exact ov),FQ,fF (by rw[lK,lK];exact ov),Sy];rw[Dn _ h0 hr _ 0,YH ok h0 h1,Int.add_zero,WT (W.lo _)];refine⟨?_,fun _=>.inl rfl⟩;have ok2:=(ok1.put rd (W.lo (a+4))).stop (acS (rg q.h r1.toNat+lo im));rw[kN _ hr,MC q h0]at ok2 ⊢;exact AO (x:=lo (a+4)) (pc:=lo (rg q.h r1.toNat+lo im)-lo (rg q.h r1.toNat+lo im)%2) ok2 st rfl (Ms _ _ _ _ _) (Mt _ _ _ _) rfl rfl rfl rfl rfl rfl
theorem pG {q q2:Mi.Rn}{s:List (Int×Int)}(hE:fT (q.h.go a) q.m op (rg q.h r1.toNat) (rg q.h r2.toNat) (lo im)=⟨q2.h.go a,q2.m,[],s,some x⟩)(ok:q2.Ok)(ov:q2.over=false)(st:q2.h.state=0)(hpc:q2.h.pc=q.h.pc)(hh:q2.here=a)(ho:q2.out=q.out)(hs:q2.av=q.av++s)(hn:q2.n=q.n)(hw:q2.own=(q.own ||s.any (meet bf bt)))(hr:rd<32)(wx:W x)(hx:¬op=3/\¬op=4/\(op<5\/10<op)):Fit bf bt a q (ins (q.h.go a) q.m op rd r1 r2 im) (q2.put rd x):=by
 have WS:=ok.put rd wx;rw[kN q2 hr]at WS ⊢;refine qK (X:=q2.h.set rd.toNat x) (o:=[]) (s:=s) (uf (res:=some x) hE st hx) WS ov hh rfl ?_ ?_ (by simp[ho]) hs hn hw
 ·exact(qL q2.h rd.toNat (some x)).2.trans hpc
 ·exact(qL q2.h rd.toNat (some x)).1.trans st
theorem IG (hr:rd<32)(h1:r1<32)(h2:r2<32)(ho:46<=op/\op<=56):iy bf bt steps a op rd r1 r2 im [⟨600+op,rd,r1,r2,0⟩]:=fun q ov ok st z hh hl=>by
 rw[fF ov,gM (c:=600) (k:=op) ab ab rfl ab];unfold vH;rw[ak,ak,ak,ak,ak,at7 rfl];simp only[fV q h1,fV q h2];have wA:=ok.h.reg r1.toNat;have wB:=ok.h.reg r2.toNat;have hE:fT (q.h.go a) q.m op (rg q.h r1.toNat) (rg q.h r2.toNat) (lo im)=aK (q.h.go a) q.m op (rg q.h r1.toNat) (rg q.h r2.toNat):=by
  unfold fT;rw[ak,ak,ak,ak,ak,ak,ak,at7 ho]
 have hx:¬op=3/\¬op=4/\(op<5\/10<op):=ab;have no:∀{q2:Mi.Rn} {x:Int} {P:Prop},q2.over=false->(q2.put rd x).over=true->P:=fun e h=>by rw[lK,e]at h;cases h
 unfold Ah;unfold aK at hE;by_cases q6:op=46
 ·rw[at7 q6]at hE ⊢;unfold mLr;unfold gB at hE;by_cases hk:bM q.m 13 (rg q.h r1.toNat)=true
  ·rw[at7 hk]at hE ⊢;exact⟨pG (q:=q) (bf:=bf) (bt:=bt) (q2:={ q with h:=q.h.hold true (rg q.h r1.toNat) }) (s:=[]) hE (ok.hart (ok.h.hold true wA.1 wA.2)) ov st rfl hh rfl aq rfl aq hr (W.aN _ _ _) hx,no (q2:={ q with h:=q.h.hold true (rg q.h r1.toNat) }) ov⟩
  ·rw[at6 hk]at hE ⊢;have t:=jg (bf:=bf) (bt:=bt) (rd:=rd) (c:=3) ok hh hE;exact⟨t.1,fun _=>.inr t.2⟩
 rw[at6 q6]at hE ⊢;by_cases q7:op=47
 ·rw[at7 q7]at hE ⊢;unfold mSc;unfold eU at hE;by_cases hk:bM q.m 13 (rg q.h r1.toNat)=true
  ·rw[at7 hk]at hE ⊢;have hm:=yt (op:=18) (bf:=bf) (bt:=bt) hl wA.1 (bG hk);have okH:=ok.hart (ok.h.hold false (x:=0) ab ab);by_cases hd:q.h.held=true/\q.h.aP=rg q.h r1.toNat
   ·rw[at7 hd];have hd2:(q.h.go a).held=true/\(q.h.go a).aP=rg q.h r1.toNat:=hd;rw[at7 hd2]at hE;exact⟨pG (q:=q) (bf:=bf) (bt:=bt) (q2:={ q with h:=q.h.hold false 0,m:=il q.m 18 (rg q.h r1.toNat) (rg q.h r2.toNat) }.stored bf bt (rg q.h r1.toNat) 4) (s:=[(rg q.h r1.toNat,4)]) hE ((okH.mem _).stored _ _ _ _) ov st rfl hh rfl rfl rfl (by show(q.own ||hits bf bt _ 4)=_;rw[show hits bf bt (rg q.h r1.toNat) 4=meet bf bt (rg q.h r1.toNat,4)from hm];simp) hr .zero hx,no (q2:={ q with h:=q.h.hold false 0,m:=il q.m 18 (rg q.h r1.toNat) (rg q.h r2.toNat) }.stored bf bt (rg q.h r1.toNat) 4) ov⟩
   ·rw[at6 hd];have hd2:¬((q.h.go a).held=true/\(q.h.go a).aP=rg q.h r1.toNat):=hd;rw[at6 hd2]at hE;exact⟨pG (q:=q) (bf:=bf) (bt:=bt) (q2:={ q with h:=q.h.hold false 0 }) (s:=[]) hE okH ov st rfl hh rfl aq rfl aq hr .one hx,no (q2:={ q with h:=q.h.hold false 0 }) ov⟩
  ·rw[at6 hk]at hE ⊢;have t:=jg (bf:=bf) (bt:=bt) (rd:=rd) (c:=4) ok hh hE;exact⟨t.1,fun _=>.inr t.2⟩
 rw[at6 q7]at hE ⊢;unfold LP;unfold iN at hE;by_cases hk:bM q.m 13 (rg q.h r1.toNat)=true
 ·rw[at7 hk]at hE ⊢;have hm:=yt (op:=18) (bf:=bf) (bt:=bt) hl wA.1 (bG hk);exact⟨pG (q:=q) (bf:=bf) (bt:=bt) (q2:={ q with m:=il q.m 18 (rg q.h r1.toNat) (mO op (aN q.m 13 (rg q.h r1.toNat)) (rg q.h r2.toNat)) }.stored bf bt (rg q.h r1.toNat) 4) (s:=[(rg q.h r1.toNat,4)]) hE ((ok.mem _).stored _ _ _ _) ov st rfl hh rfl rfl rfl (by show(q.own ||hits bf bt _ 4)=_;rw[show hits bf bt (rg q.h r1.toNat) 4=meet bf bt (rg q.h r1.toNat,4)from hm];simp) hr (W.aN _ _ _) hx,no (q2:={ q with m:=il q.m 18 (rg q.h r1.toNat) (mO op (aN q.m 13 (rg q.h r1.toNat)) (rg q.h r2.toNat)) }.stored bf bt (rg q.h r1.toNat) 4) ov⟩
 ·rw[at6 hk]at hE ⊢;have t:=jg (bf:=bf) (bt:=bt) (rd:=rd) (c:=4) ok hh hE;exact⟨t.1,fun _=>.inr t.2⟩
end
end Ts
namespace Ts
open Mm Wd Mi Bk
open Hh hiding Rn
theorem fM (l:List UInt8)(pc:Int):∀n k,(blk l pc n k).length≤n∧∀j,j<(blk l pc n k).length→jR l (at4 pc (k+j))=0∧(blk l pc n k)[j]?=some (aN l 13 (at4 pc (k+j)))∧(eB (Dc.aO (aN l 13 (at4 pc (k+j))))=true→j+1=(blk l pc n k).length)
 |0,k=>⟨apn _,fun j hj=>absurd hj (by simp[blk])⟩
 |n+1,k=>by
  by_cases h:jR l (at4 pc k)=0
  ·cases hl:eB (Dc.aO (aN l 13 (at4 pc k)))with
   |true=>
    rw[pq h hl];refine⟨aq,fun j hj=>?_⟩;have hj0:j=0:=by simp at hj;omega
    subst hj0;exact⟨h,rfl,fun _=>rfl⟩
   |false=>
    rw[yo h hl];obtain⟨ih1,ih2⟩:=fM l pc n (k+1);refine⟨aE,fun j hj=>?_⟩
    match j,hj with
    |0,_=>exact⟨h,rfl,fun q=>by rw[aqt]at q;rw[hl]at q;cases q⟩
    |j+1,hj=>
     obtain⟨a,b,c⟩:=ih2 j (by simp at hj;omega);rw[show k+1+j=k+(j+1)by omega]at a b c;exact⟨a,by simpa using b,fun q=>by have:=c q;simp;omega⟩
  ·rw[pg h];exact⟨aq,fun j hj=>absurd hj aq⟩
theorem mV (h:jR l pc=0):bM l 13 pc=true/\¬Dc.aO (aN l 13 pc)=0:=by
 unfold jR at h;split at h
 ·rename_i q;split at h
  ·cases h
  ·rename_i q2;exact⟨q,q2⟩
 ·cases h
theorem acT (h:bM l 13 a=true):a+4<=l.length:=by unfold bM qy at h;simp only[auk]at h;exact h.2.2
theorem SA (hl :l.length <= 4096) (h0 :0 <= pc) (h1 :pc < 4294967296) (hp :0 < (blk l pc 16 0).length) :Sl l pc (pc + 4 * ((blk l pc 16 0).length :Int)) (blk l pc 16 0).length (fun j => aN l 13 (at4 pc j)) :=by
  obtain⟨_, f⟩ :=fM l pc 16 0;have f : ∀ j, j < (blk l pc 16 0).length -> jR l (at4 pc j) =0 /\ (blk l pc 16 0)[j]? =some (aN l 13 (at4 pc j)) /\ (eB (Dc.aO (aN l 13 (at4 pc j))) =true -> j + 1 =(blk l pc 16 0).length) :=fun j hj => by
    have :=f j hj;rwa[apu]at this
  have at_ : ∀ j, j <= (blk l pc 16 0).length -> at4 pc j =pc + 4 * j :=by
    intro j;induction j with
    | zero => intro _; unfold at4; have : lo (pc + 4 * ((0 : Nat) : Int)) = pc := by rw [show pc + 4 * ((0 : Nat) : Int) = pc by omega]; exact aqr h0 h1
              rw[this]; omega
    |succ j ih =>
      intro hj;have e :=ih ab;have :=acT (mV (f j ab).1).1;unfold at4 at e ⊢;rw[show lo (pc + 4 * ((j + 1 :Nat) :Int)) =pc + 4 * ((j + 1 :Nat) :Int)from aqr ab (by unfold at4 at this; omega)]
  have hlast :=acT (mV (f ((blk l pc 16 0).length - 1) ab).1).1;rw[at_ _ ab]at hlast;exact⟨hp, h0, rfl, hl, by omega, at_, fun j hj => (mV (f j hj).1).1, fun j hj => (mV (f j hj).1).2, fun j hj q => (f j hj).2.2 q⟩
theorem wN (f x:Int):0<=Dc.iF f x/\Dc.iF f x<32:=by unfold Dc.iF;split<;>omega
theorem ME (f x:Int):0<=Dc.bZ f x/\Dc.bZ f x<32:=by unfold Dc.bZ;split<;>omega
theorem MF (f x:Int):0<=Dc.bV f x/\Dc.bV f x<32:=by unfold Dc.bV;split<;>omega
end Ts
namespace Re
open Dw
end Re
end Go.Proofs.YtiadhbmnfjfioaaGreatDoor
