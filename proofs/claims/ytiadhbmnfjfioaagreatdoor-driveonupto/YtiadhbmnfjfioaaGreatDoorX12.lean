/- ours -/
import Derived.Test.YtiadhbmnfjfioaaGreatDoorX11
set_option linter.unusedVariables false
set_option linter.unusedSimpArgs false
set_option maxHeartbeats 8000000
set_option maxRecDepth 100000
set_option linter.unusedSectionVars false
namespace Go.Proofs.YtiadhbmnfjfioaaGreatDoor
open Go.Proofs.Tryz hiding t1 t2 t3
open Go.ChangeShapes Go.WideShapes Go.ChangeAt Go.RowKit
namespace Hc
variable [Inhabited Go.Proofs.YtiadhbmnfjfioaaGreatDoor.Hc.bN]
open Mm Hh

structure Wm (w:World) (ao:Option Addr) (n:Nat) (os:List Int):Prop where
 len:os.length=n
 nil:ao=none->n=0
 cell:∀ad,ao=some ad->∀t,t<n->w.cell? (ad.add t)=some (.int .u32 (os.getD t 0))
theorem Wm.of {w w':World}{ao:Option Addr}{n:Nat}{os:List Int}(h:Wm w ao n os)(g:Gr w w'):Wm w' ao n os:=⟨h.len,h.nil,fun ad e t ht=>(g.cell _ (aug w _ (h.cell ad e t ht))).trans (h.cell ad e t ht)⟩
theorem Wm.spot {w:World}{ao:Option Addr}{n:Nat}{os:List Int}(h:Wm w ao n os)(hn:0<n):∃b o,ao=some ⟨b,o,none⟩/\b<w.heap.size/\∀t,t<n->w.cell? ⟨b,o+t,none⟩=some (.int .u32 (os.getD t 0)):=by
 cases ao with
 |none=>exact absurd (h.nil rfl) (by omega)
 |some ad=>
  obtain⟨b,o,s⟩:=ad;have hs:s=none:=by simpa[Addr.add]using avb (h.cell _ rfl 0 hn)
  subst hs;have hb:b<w.heap.size:=by simpa[Addr.add]using aug w _ (h.cell _ rfl 0 hn)
  exact⟨b,o,rfl,hb,fun t ht=>by rw[<-cz];exact h.cell _ rfl t ht⟩
theorem M6 {w:World}{base n:Nat}{v:Value}{os:List Int}(hl:os.length=n)(h:w.ownsRow base 37 1 v n (os.map (Value.int .u32))):∃ao cap,v=.slice ao n cap/\Wm w ao n os:=by
 obtain⟨_,h⟩:=h;rcases h with⟨rfl,h0⟩|⟨g,cap,cur,rfl,hb,hg,hn,hm,hs,ht⟩
 ·subst h0;exact⟨none,0,rfl,hl,fun _=>rfl,fun ad e=>(by cases e)⟩
 ·refine⟨_,cap,rfl,hl,fun e=>(by cases e),fun ad e t htn=>?_⟩;obtain rfl:=aum e;rw[cz,apu,cr hg];have h1:(cur.toList.take (n*1))[t]?=some (.int .u32 (os.getD t 0)):=by
   rw[ht,apT];simp[List.getD,api (show t<os.length by omega)]
  rw[List.getElem?_take_of_lt (by omega)]at h1;simpa using h1
section
variable {P :Program} {ops :Array Oper} {rest :List Oper} {op :Oper} {a :Act} {w :World} {Q :Exit -> Act -> World -> Prop}
theorem wpList_want (hw:Region.wanted op (yielded ops a.tmps)=true)(h:∀K:Act->World->Prop,(∀a w,wpList P ops Q rest a w->K a w)->op.wp P a w K Q):wpList P ops Q (op::rest) a w:=wpList_step fun K hK=>by rw[at7 hw];exact h K hK
theorem ku (hw:Region.wanted op (yielded ops a.tmps)=true)(ty:TypeId)(x:Operand)(ho:op.op=.load ty x)
  (g:Nat)(hx:a.eval x=.pointer (some ⟨g,0,none⟩))(t:TypeId)(cs:Array Value)(fr:Nat×Nat)(d:TypeDesc)(hg:w.heap[g]?=some (.cells cs t fr))
  (hu:P.underlying ty=some d)(hd:(match d with|.struct _|.array _ _=>true|_=>false)=true)(hi:(P.info? ty).map (·.size)=some cs.size)
  (h:wpList P ops Q rest (a.put op.dst (.agg cs)) w):wpList P ops Q (op::rest) a w:=
 wpList_want hw fun _ hK=>wp_load_row ty x ho g hx t cs fr d hg hu hd hi (hK _ _ h)
theorem gQ (hw:Region.wanted op (yielded ops a.tmps)=true)(ty:TypeId)(x:Operand)(ho:op.op=.load ty x)(b o:Nat)(hx:a.eval x=.pointer (some ⟨b,o,none⟩))(cs:List Value)(d:TypeDesc)(hc:w.rangeAt b o cs)(hu:P.underlying ty=some d)(hd:d.isRow=true)(hi:(P.info? ty).map (·.size)=some cs.length)(h:wpList P ops Q rest (a.put op.dst (.agg cs.toArray)) w):wpList P ops Q (op::rest) a w:=wpList_want hw fun _ hK=>wp_load_mid ty x ho b o hx cs d hc hu hd hi (hK _ _ h)
end
end Hc
namespace Mc
variable [Inhabited Go.Proofs.YtiadhbmnfjfioaaGreatDoor.Hc.bN]
open Mm Hh Hc

theorem aM {a b:Bool}(h:a=b):Ending.returned (.bool a)=.returned (.bool b):=by rw[h]
theorem Je {x f t:Int}(hx0:0<=x)(hx:x<4294967296)(hf0:0<=f)(hf:f<4294967296)(w:World):Calls prog 108 #[.int .u32 x,.agg #[.int .u32 f,.int .u32 t]] w fun e w'=>e=.returned (.bool (decide (x<t) && decide (f<x+4)))/\Gr w w':=by
 by_cases h1:x<t
 ·have HE:Hid ((decide (x<t) && decide (f<x+4))=decide (f<x+4)):=by unfold Hid;simp[h1]
  rw[HE.out];go_enter func108,ntmps108;go_wp2;go_ret;exact⟨rfl,(Gr.refl _).alloc _⟩
 ·have HE:Hid ((decide (x<t) && decide (f<x+4))=false):=by unfold Hid;simp[h1]
  rw[HE.out];go_enter func108,ntmps108;go_wp2;go_ret;exact⟨rfl,(Gr.refl _).alloc _⟩
def jL (mn:Nat) (hs:List Hv):Bool:=decide (mn<=4096/\1<=hs.length/\hs.length<=4) && hs.all may
theorem Jf (m:List UInt8)(hs:List Hv)(ps:List (Int×Int)):wrong m hs ps=if jL m.length hs=false then 2 else if 300<ps.length then 1 else if ps.all (jk hs.length)=false then 3 else 0:=by
 unfold wrong jL;by_cases h:4096<m.length\/hs.length<1\/4<hs.length
 ·rw[at7 h,at7];rw[auh (by omega)];rfl
 ·rw[at6 h,auq (show m.length<=4096/\1<=hs.length/\hs.length<=4 by omega)];simp only[arl]
theorem lT {ma ha:Option Addr}{hn:Nat}(mc hc:Nat){hs:List Hv}{w:World}(mn:Nat)(H:Hs w ha hn hs)(b1:mn<=140737488351232)(b2:hn<=140737488351232):Calls prog 34 #[.agg #[.slice ma mn mc,.slice ha hn hc]] w fun e w'=>e=.returned (.bool (jL mn hs))/\Gr w w':=by
 have hl:=H.len;by_cases c1:4096<mn\/hn<1\/4<hn
 ·have HE:Hid (jL mn hs=false):=by unfold Hid jL;rw[auh (by omega)];rfl
  have c2:4096<mn\/(¬4096<mn/\hn<1)\/(¬4096<mn/\¬hn<1/\4<hn):=by omega
  rcases c2 with c|⟨c,d⟩|⟨c,d,e⟩
  all_goals
   go_enter func34,ntmps34;go_wp2;go_ret;exact⟨aM HE.out.symm,(Gr.refl _).alloc _⟩
 ·have n1:¬4096<mn:=by omega
  have n2:¬hn<1:=by omega
  have n3:¬4<hn:=by omega
  obtain⟨b,o,rfl,hb,hcell⟩:=H.spot (by omega);have HW:Hid (jL mn hs=hs.all may):=by unfold Hid jL;rw[auq (by omega)];rfl
  have HK:=kH hcell;have HO:=kH H.ok;have HL:=kH hl;go_enter func34,ntmps34;go_wp2;go_loopw [24] (fun i wr=>∃k:Nat,k<=hn/\i=.int .i64 k/\(hs.take k).all may=true/\Gr w wr) (fun i _=>hn-(intOf i).toNat)
  case atStart=>exact⟨0,apF _,rfl,rfl,(Gr.refl _).alloc _⟩
  case round=>
   obtain⟨k,hk,rfl,hall,G⟩:=hrel;have HG:=kH G;have HA:=kH hall;by_cases hlt:k<hn
   ·obtain⟨h,hh⟩:∃h,hs[k]?=some h:=⟨_,api (by rw[HL.out];exact hlt)⟩;have HH:=kH hh;have jM:=HO.out h (aps hh);have RG:Hid (wr.rangeAt b (o+k*37) (hL h)):=fun j v hv=>(HG.out.cell _ (by exact hb)).trans (HK.out k h hh j v hv)
    have rH:=kH (aD jM);have sJ:Hid ((hL h).toArray.size=37):=by unfold Hid;simp[rH.out]
    have DN:=kH (qC h);have M1:Hid (∀W:World,_):=fun W=>yj jM W
    have M7:Hid (∀Y:Array Value,Gr wr ((wr.alloc (.cells Y 43)).setRow wr.heap.size (hL h).toArray)):=fun Y=>ag ((Gr.refl _).alloc _) (apn _) _
    have KN:Hid (∀Y:Array Value,((wr.alloc (.cells Y 43)).setRow wr.heap.size (hL h).toArray).heap[wr.heap.size]?=some (.cells (hL h).toArray 43 (0,0))):=fun Y=>aup _ _ _ _ _ (0,0) (at5 wr _)
    cases hmb:may h with
    |true=>
     have M2:Hid (∀W:World,Calls prog 69 #[.agg (hL h).toArray] W fun e w'=>e=.returned (.bool true)/\Gr W w'):=fun W=>by have:=M1.out W;rwa[hmb]at this
     have HN:Hid ((hs.take (k+1)).all may=true):=by unfold Hid;rw[pV may hs k h HH.out,HA.out,hmb];rfl
     go_wp2_with (first
      |(refine auA rfl 43 _ rfl b (o+k*37) rfl (hL h) _ ?r1 underlying43 rfl (by rw[rH.out];exact iH) ?_;(case r1=>exact RG.out))
      |(refine auf rfl 43 _ _ rfl wr.heap.size (hL h).toArray rfl rfl 43 _ (at5 wr _) (by rw[sJ.out];exact iH) (by rw[sJ.out];rfl) DN.out ?_)
      |(refine auL rfl 43 _ rfl wr.heap.size rfl 43 (hL h).toArray (0,0) _ ?r2 underlying43 rfl (by rw[sJ.out];exact iH) ?_;(case r2=>exact KN.out _)))
     refine(M2.out _).mono ?_;rintro e w1 ⟨rfl,G1⟩;have aU:=kH (HG.out.trans ((M7.out _).trans G1));go_wp2_with fail;go_roundw
     case rel=>exact⟨k+1,by omega,by go_num,HN.out,aU.out⟩
     case measure=>simp[intOf];omega
    |false=>
     have M2:Hid (∀W:World,Calls prog 69 #[.agg (hL h).toArray] W fun e w'=>e=.returned (.bool false)/\Gr W w'):=fun W=>by have:=M1.out W;rwa[hmb]at this
     have HE:Hid (jL mn hs=false):=by unfold Hid;rw[HW.out];exact all_false HH.out hmb
     go_wp2_with (first
      |(refine auA rfl 43 _ rfl b (o+k*37) rfl (hL h) _ ?r1 underlying43 rfl (by rw[rH.out];exact iH) ?_;(case r1=>exact RG.out))
      |(refine auf rfl 43 _ _ rfl wr.heap.size (hL h).toArray rfl rfl 43 _ (at5 wr _) (by rw[sJ.out];exact iH) (by rw[sJ.out];rfl) DN.out ?_)
      |(refine auL rfl 43 _ rfl wr.heap.size rfl 43 (hL h).toArray (0,0) _ ?r2 underlying43 rfl (by rw[sJ.out];exact iH) ?_;(case r2=>exact KN.out _)))
     refine(M2.out _).mono ?_;rintro e w1 ⟨rfl,G1⟩;have aU:=kH (HG.out.trans ((M7.out _).trans G1));go_wp2_with fail;go_ret;exact⟨aM HE.out.symm,aU.out⟩
   ·have HE:Hid (jL mn hs=true):=by have:=HA.out;rw[show k=hn by omega,<-HL.out,ap9]at this;unfold Hid;rw[HW.out];exact this
    go_wp2_with fail;go_ret;exact⟨aM HE.out.symm,HG.out⟩
end Mc
namespace Rw

end Rw
namespace Rw

end Rw
namespace Hr
open Mm Hh

theorem iH:(prog.info? 43).map (·.size)=some 37:=by kernel_rfl
end Hr
namespace Mr
open Mm

variable {op a :Int}
end Mr
namespace Hr
open Mm Hh

variable {w w' :World}
theorem aI {P:Program}{fn:Func}{p t:Tmp}{ty:TypeId}(h:fn.results=#[.cell p ty,.tmp t])(tmps:Array Value)(w:World)(g:Nat)(tt:TypeId)(cs:Array Value)(fr:Nat×Nat)(d:TypeDesc)
  (v:Value)(hp:tmps.getD p undef=.pointer (some ⟨g,0,none⟩))(hv:tmps.getD t undef=v)(hg:w.heap[g]?=some (.cells cs tt fr))
  (hu:P.underlying ty=some d)(hd:(match d with|.struct _|.array _ _=>true|_=>false)=true)(hi:(P.info? ty).map (·.size)=some cs.size):
  (results fn tmps).run P w=.ok (.tuple #[.agg cs,v]) w:=by
 subst hv;have hp':tmps[p]?.getD undef=.pointer (some ⟨g,0,none⟩):=by simpa using hp
 simp[results,h,hp',asAddr,au4 w g tt ty cs fr d hg hu hd hi]
theorem ae (g:Gr w w'){k:Nat}{x:Obj}(h:w.heap[k]?=some x):w'.heap[k]?=some x:=by rw[au1 g k (gs h).1];exact h
end Hr
namespace Hc
variable [Inhabited Go.Proofs.YtiadhbmnfjfioaaGreatDoor.Hc.bN]
open Mm Hh

theorem Y5 {w w':World}{ad:Addr}{n:Nat}{l:List UInt8}(M:Mem w (some ad) n l)(G:Gr w w'):∀j u,(bc l)[j]?=some u->w'.cell? (ad.add j)=some u:=by intro j u hj;obtain⟨h1,rfl⟩:=xW hj;have hl:=M.len;exact(M.of G).cell ad rfl j (by omega)
theorem M8 {w:World}{base n:Nat}{v:Value}{l:List UInt8}(hl:l.length=n)(h:w.ownsRow base 5 1 v n (bc l)):Own w base v l:=by
 subst hl;obtain⟨_,h⟩:=h;rcases h with⟨rfl,h0⟩|⟨g,cap,cur,rfl,hb,hg,hn,hm,hs,ht⟩
 ·exact .inl ⟨rfl,apX h0⟩
 ·refine .inr ⟨g,cap,rfl,⟨hb,hn⟩,cur.toList.drop (l.length*1),?_⟩;rw[<-ht,aqd];exact⟨hg,by simpa using hs,hm⟩
theorem qQ {w:World}{ao:Option Addr}{n cap:Nat}{l:List UInt8}(M:Mem w ao n l)(hcap:ao=none->cap=0)(hn:n<=140737488351232):Calls prog 36 #[.slice ao n cap] w fun e w'=>∃v,e=.returned v/\Own w' w.heap.size v l/\Gr w w':=by
 have hl:=M.len;cases ao with
 |none=>
  obtain rfl:=M.nil rfl;obtain rfl:=hcap rfl;obtain rfl:l=[]:=apX hl;have he:∀w:World,(binOp .eql 25 (.slice none 0 0) (.slice none 0 0)).run prog w=.ok (.bool true) w:=fun _=>by kernel_rfl
  go_enter func36,ntmps36;go_wp2;go_ret;exact⟨_,rfl,.inl ⟨rfl,rfl⟩,Gr.refl _⟩
 |some ad=>
  obtain⟨i0,hi,hz0,hz1,hz2⟩:=auz info5;have HM:=kH M;have he:∀w:World,(binOp .eql 25 (.slice (some ad) n cap) (.slice none 0 0)).run prog w=.ok (.bool false) w:=fun _=>by kernel_rfl
  go_enter func36,ntmps36;go_wp2_with (at_builtin;refine auK _ rfl (.tmp 5) (.tmp 6) 25 rfl w.heap.size 5 i0 (.int .u8 0) 1 1 underlying25 hi hz0 hz1 hz2 rfl (by decide) _ 0 [] rfl (avf w #[] 0 (apn _) (by decide) rfl) ad n cap (bc l) rfl (by rw[gH,hl];simp) (Y5 HM.out ((Gr.refl _).alloc _)) (xX l) (by unfold maxLen;omega) (by omega) (by simp) ?_;intro v' w1 hown hgrow _;have HO:Hid (Own w1 w.heap.size v' l):=M8 hl (by simpa using hown);have HG:Hid (Gr w w1):=((Gr.refl _).alloc _).grown hgrow (fun k e=>aq6 (aum e));clear hown hgrow);go_ret;exact⟨_,rfl,HO.out,HG.out⟩
theorem iC:(prog.info? 197).map (·.size)=some 40:=by kernel_rfl
theorem fA {w w':World}{A Z:Array Value}{t u:Nat}(g:Gr ((w.alloc (.cells A t)).alloc (.cells Z u)) w'):w'.heap[w.heap.size]?=some (.cells A t (0,0))/\w'.heap[w.heap.size+1]?=some (.cells Z u (0,0)):=⟨Hr.ae g (auR w _ _),Hr.ae g (au8 w _ _)⟩
theorem Own.cells {w:World}{base:Nat}{v:Value}{l:List UInt8}(h:Own w base v l):v.cells=#[v]/\v.oneCell'=true:=by rcases h with⟨rfl,_⟩|⟨k,cap,rfl,_⟩<;>exact⟨rfl,rfl⟩
theorem Own.base {w w':World}{b b':Nat}{v:Value}{l:List UInt8}(h:Own w b v l)(hb:b'<=b):Own w b' v l:=by
 rcases h with h|⟨k,cap,e,q,R⟩
 ·exact .inl h
 ·exact .inr ⟨k,cap,e,⟨apr hb q.1,q.2⟩,R⟩
theorem A7 {w:World}{b:Nat}{h:Hv}{t:Nat}(e:w.heap[b]?=some (.cells (hA h) t (0,0))):w.rangeAt b 0 (hL h):=fun j v hv=>by rw[apu,atZ _ _ _ _ _ _ e];simpa[hA]using hv
theorem A8 {h:Hv}(o:h.Ok){ao:Option Addr}{n cap:Nat}{l:List UInt8}{w:World}(M:Mem w ao n l)(hcap:ao=none->cap=0)(hn:n<=4096)(hm:may h=true)(hs:h.state=0):Calls prog 143 #[.agg (hA h),.slice ao n cap] w fun e w'=>∃v,e=.returned (.tuple #[.agg (cA ⟨h,v,ax,ax⟩),.bool true])/\Own w' w.heap.size v l/\Gr w w':=by
 have HM:Hid (∀W:World,Calls prog 69 #[.agg (hA h)] W fun e w'=>e=.returned (.bool true)/\Gr W w'):=fun W=>by rw[<-hm];exact yj o W
 have g35:(hA h)[35]?=some (.int .i64 0):=by rw[<-hs];exact(Fv h o).2.2.2.1
 have HS:=kH (jC o);have HL:=kH (aD o);have HC:Hid (∀W:World,Gr w W->Calls prog 36 #[.slice ao n cap] W fun e w'=>∃v,e=.returned v/\Own w' w.heap.size v l/\Gr W w'):=fun W G=>
  (qQ (M.of G) hcap (by omega)).mono fun e w' ⟨v,e1,e2,e3⟩=>⟨v,e1,e2.base (w':=w') G.size,e3⟩
 have M9:Hid (∀v:Value,v.cells=#[v]->_):=fun v hv=>uq o v hv
 have HZ:Hid (∀v,(cA ⟨h,v,ax,ax⟩).size=40):=fun v=>jD o
 go_enter func143,ntmps143;go_wp2_with (refine auL rfl 43 _ rfl w.heap.size rfl 43 (hA h) (0,0) _ ?hb1 underlying43 rfl (by rw[HS.out];exact Hr.iH) ?_;(case hb1=>exact auR w _ _));refine(HM.out _).mono ?_;rintro e w1 ⟨rfl,G1⟩;obtain⟨hB,hR⟩:=fA G1;have HG:=kH ((((Gr.refl _).alloc _).alloc _).trans G1);have QS:=(atZ _ _ _ _ _ _ hB).trans g35;have HB:=kH hB;have HR:Hid (∃Z:Array Value,Z.size=40/\w1.heap[w.heap.size+1]?=some (.cells Z 197 (0,0))):=⟨_,rfl,hR⟩;obtain⟨Z,hz,hR⟩:=HR.out;have HR2:=kH hR;go_wp2_with fail;refine wp_region_any (by kernel_rfl) ?_;change wpAny _ _ _ _ _ _ _ (World.drew _);refine wpAny_take (i:=1) (v:=.slice ao n cap) rfl (by kernel_rfl) (by kernel_rfl) (by kernel_rfl) (fun _ _ _ h=>h) (Or.inl ⟨by rfl,fun w=>by go_simp⟩) ?_;refine au2 (rs:=[0,2]) (by kernel_rfl) (by simp) ?_;refine auP rfl (fun K hK=>?_) (auP rfl (fun K hK=>?_) auW)
 ·refine wT rfl 43 (.tmp 2) rfl w.heap.size (by simp[Act.eval,Act.put]) (hL h) _ (A7 (by exact HB.out)) underlying43 rfl (by rw[HL.out];exact Hr.iH) ?_;refine hK _ _ ?_;refine au2 (rs:=[2]) (by kernel_rfl) (by simp) ?_;refine auP rfl (fun K hK=>?_) auW;go_simp;refine(HC.out _ (by repeat (first|exact HG.out|refine Gr.drew ?_))).mono ?_;rintro e w2 ⟨v,rfl,O2,G2⟩;simp only[];refine hK _ _ ?_;have kY:=kH O2;have HG2:=kH ((Gr.refl w1).drew.trans G2);refine au2 (rs:=[3]) (by kernel_rfl) (by simp) ?_;refine auP rfl (fun K hK=>?_) auW;refine uu rfl 197 _ rfl (cA ⟨h,v,ax,ax⟩) (by have:=M9.out v kY.out.cells.1;simp[Act.eval,Act.put];exact this) ?_;refine hK _ _ ?_;refine au2 (rs:=[4]) (by kernel_rfl) (by simp) ?_;refine auP rfl (fun K hK=>?_) auW;refine gP rfl 197 (.tmp 4) (.tmp 23) rfl (w.heap.size+1) (cA ⟨h,v,ax,ax⟩) (by simp[Act.eval,Act.put]) (by simp[Act.eval,Act.put]) 197 Z (Hr.ae HG2.out HR2.out) (by rw[HZ.out];exact iC) (by rw[HZ.out,hz]) (yC _ kY.out.cells.2 rfl rfl) ?_;refine hK _ _ ?_;refine au2 (rs:=[5]) (by kernel_rfl) (by simp) ?_;refine auP rfl (fun K hK=>?_) auW;go_simp;refine hK _ _ ?_;refine wpAny_done (by kernel_rfl) ?_ _;go_wp2_with fail;refine auc (v:=.tuple #[.agg (cA ⟨h,v,ax,ax⟩),.bool true]) (Hr.aI results143 _ _ _ _ _ (0,0) _ _ (by simp[Act.put]) (by simp[Act.put]) (aup _ _ _ _ _ (0,0) (Hr.ae HG2.out HR2.out)) underlying197 rfl (by rw[HZ.out];exact iC)) rfl ⟨v,rfl,?_,?_⟩
  ·refine kY.out.to fun k q f hk=>auo _ _ _ _ ?_
   exact aa hk (Hr.ae HG2.out HR2.out) (by decide)
  ·exact ag (HG.out.trans HG2.out) (aqi _) _
 ·go_simp;refine(HC.out _ (by repeat (first|exact HG.out|refine Gr.drew ?_))).mono ?_;rintro e w2 ⟨v,rfl,O2,G2⟩;simp only[];refine hK _ _ ?_;have kY:=kH O2;have HG2:=kH ((Gr.refl w1).drew.trans G2);refine au2 (rs:=[0]) (by kernel_rfl) (by simp) ?_;refine auP rfl (fun K hK=>?_) auW;refine wT rfl 43 (.tmp 2) rfl w.heap.size (by simp[Act.eval,Act.put]) (hL h) _ (A7 (Hr.ae HG2.out HB.out)) underlying43 rfl (by rw[HL.out];exact Hr.iH) ?_;refine hK _ _ ?_;refine au2 (rs:=[3]) (by kernel_rfl) (by simp) ?_;refine auP rfl (fun K hK=>?_) auW;refine uu rfl 197 _ rfl (cA ⟨h,v,ax,ax⟩) (by have:=M9.out v kY.out.cells.1;simp[Act.eval,Act.put];exact this) ?_;refine hK _ _ ?_;refine au2 (rs:=[4]) (by kernel_rfl) (by simp) ?_;refine auP rfl (fun K hK=>?_) auW;refine gP rfl 197 (.tmp 4) (.tmp 23) rfl (w.heap.size+1) (cA ⟨h,v,ax,ax⟩) (by simp[Act.eval,Act.put]) (by simp[Act.eval,Act.put]) 197 Z (Hr.ae HG2.out HR2.out) (by rw[HZ.out];exact iC) (by rw[HZ.out,hz]) (yC _ kY.out.cells.2 rfl rfl) ?_;refine hK _ _ ?_;refine au2 (rs:=[5]) (by kernel_rfl) (by simp) ?_;refine auP rfl (fun K hK=>?_) auW;go_simp;refine hK _ _ ?_;refine wpAny_done (by kernel_rfl) ?_ _;go_wp2_with fail;refine auc (v:=.tuple #[.agg (cA ⟨h,v,ax,ax⟩),.bool true]) (Hr.aI results143 _ _ _ _ _ (0,0) _ _ (by simp[Act.put]) (by simp[Act.put]) (aup _ _ _ _ _ (0,0) (Hr.ae HG2.out HR2.out)) underlying197 rfl (by rw[HZ.out];exact iC)) rfl ⟨v,rfl,?_,?_⟩
  ·refine kY.out.to fun k q f hk=>auo _ _ _ _ ?_
   exact aa hk (Hr.ae HG2.out HR2.out) (by decide)
  ·exact ag (HG.out.trans HG2.out) (aqi _) _
end Hc
namespace Mc
variable [Inhabited Go.Proofs.YtiadhbmnfjfioaaGreatDoor.Hc.bN]
open Mm Hh Hc

variable {hs :List Hv} {w :World} {n :Nat}
theorem uw {ma ha pa:Option Addr}{hn pn:Nat}(mc hc pc:Nat){m:List UInt8}{hs:List Hv}{ps:List (Int×Int)}{w:World}(mn:Nat)(lU:m.length=mn)(H:Hs w ha hn hs)(P:Ps w pa pn ps)(b1:mn<=140737488351232)(b2:hn<=140737488351232)(b3:pn<=140737488351232):Calls prog 55 #[.agg #[.slice ma mn mc,.slice ha hn hc],.slice pa pn pc] w fun e w'=>e=.returned (.int .i64 (wrong m hs ps))/\Gr w w':=by
 have HM:Hid (∀W:World,Gr w W->Calls prog 34 #[.agg #[.slice ma mn mc,.slice ha hn hc]] W fun e w'=>e=.returned (.bool (jL mn hs))/\Gr W w'):=fun W G=>lT mc hc mn (H.of G) b1 b2
 have HWr:Hid (wrong m hs ps=if jL mn hs=false then 2 else if 300<ps.length then 1 else if ps.all (jk hs.length)=false then 3 else 0):=by have:=Jf m hs ps;rw[lU]at this;exact this
 have HL:=kH H.len;have PL:=kH P.len;have HP:=kH P;generalize jL mn hs=B at *
 cases B with
 |false=>
  have HE:Hid (wrong m hs ps=2):=by unfold Hid;rw[HWr.out,at7 rfl]
  go_enter func55,ntmps55;go_wp2_with fail;refine(HM.out _ ((Gr.refl _).alloc _)).mono ?_;rintro e w1 ⟨rfl,G1⟩;have aU:=kH (((Gr.refl _).alloc _).trans G1);go_wp2_with fail;go_ret;exact⟨au HE.out.symm,aU.out⟩
 |true=>
  have HW2:Hid (wrong m hs ps=if 300<pn then 1 else if ps.all (jk hn)=false then 3 else 0):=by unfold Hid;rw[HWr.out,at6 (by simp),PL.out,HL.out]
  go_enter func55,ntmps55;go_wp2_with fail;refine(HM.out _ ((Gr.refl _).alloc _)).mono ?_;rintro e w1 ⟨rfl,G1⟩;have aU:=kH (((Gr.refl _).alloc _).trans G1);have HB:=kH ((G1.block _ (by simp)).trans (at5 w _));have hlt1:=(apk.1 HB.out).1;by_cases c3:300<pn
  ·have HE:Hid (wrong m hs ps=1):=by unfold Hid;rw[HW2.out,at7 c3]
   go_wp2_with fail;go_ret;exact⟨au HE.out.symm,aU.out⟩
  ·have HW3:Hid (wrong m hs ps=if ps.all (jk hn)=false then 3 else 0):=by unfold Hid;rw[HW2.out,at6 c3]
   by_cases p0:pn=0
   ·subst p0;have HE:Hid (wrong m hs ps=0):=by
     have:ps=[]:=apX PL.out;unfold Hid;rw[HW3.out,this];rfl
    go_wp2_with fail;go_loopw [15] (fun i wq=>i=.int .i64 0/\wq=w1) (fun _ _=>0)
    case atStart=>exact⟨rfl,rfl⟩
    case round=>
     obtain⟨rfl,rfl⟩:=hrel;go_wp2;go_ret;exact⟨au HE.out.symm,aU.out⟩
   ·obtain⟨b',o',rfl,hb',hcell'⟩:=HP.out.spot (by omega);have HC:Hid (∀i p,ps[i]?=some p->w1.cell? ⟨b',o'+i*2,none⟩=some (.int .i64 p.1)/\w1.cell? ⟨b',o'+i*2+1,none⟩=some (.int .i64 p.2)):=fun i p hp=>⟨(aU.out.cell _ (by exact hb')).trans (hcell' i p hp).1,(aU.out.cell _ (by exact hb')).trans (hcell' i p hp).2⟩
    have hb1:=apq hb' aU.out.size;go_wp2_with fail;go_loopw [15] (fun i wq=>∃j:Nat,j<=pn/\i=.int .i64 j/\(ps.take j).all (jk hn)=true/\Gr w1 wq) (fun i _=>pn-(intOf i).toNat)
    case atStart=>exact⟨0,apF _,rfl,rfl,Gr.refl _⟩
    case round=>
     obtain⟨j,hj,rfl,hall,G⟩:=hrel;have HA:=kH hall;have HG:=kH G;have hbr:=apq hb1 G.size;have hwr:=apq hlt1 G.size;have k1:wr.cell? ⟨w.heap.size,1,none⟩=some (.slice ha hn hc):=(G.cell _ (by exact hlt1)).trans (atZ _ _ _ _ _ _ HB.out);by_cases hlt2:j<pn
     ·obtain⟨p,hp⟩:∃p,ps[j]?=some p:=⟨_,api (by rw[PL.out];exact hlt2)⟩;have q0:=(HG.out.cell _ (by exact hb1)).trans (HC.out j p hp).1;have q1:=(HG.out.cell _ (by exact hb1)).trans (HC.out j p hp).2;have HE:Hid (¬(0<=p.1/\p.1<hn/\0<=p.2/\p.2<=400)->wrong m hs ps=3):=fun hno=>by rw[HW3.out,at7 (all_false hp (by unfold jk;exact auh hno))]
      have HN:Hid ((0<=p.1/\p.1<hn/\0<=p.2/\p.2<=400)->(ps.take (j+1)).all (jk hn)=true):=fun hy=>by
       rw[pV _ ps j p hp,HA.out,show jk hn p=true by unfold jk;exact auq hy];rfl
      obtain⟨x,y⟩:=p;simp only at *
      have hc:x<0\/(¬x<0/\(hn:Int)<=x)\/(¬x<0/\¬(hn:Int)<=x/\y<0)\/(¬x<0/\¬(hn:Int)<=x/\¬y<0/\400<y)\/(¬x<0/\¬(hn:Int)<=x/\¬y<0/\¬400<y):=by omega
      rcases hc with h1|⟨h1,h2⟩|⟨h1,h2,h3⟩|⟨h1,h2,h3,h4⟩|⟨h1,h2,h3,h4⟩
      ·go_wp2;go_ret;exact⟨au (HE.out (by omega)).symm,aU.out.trans (HG.out.alloc _)⟩
      ·go_wp2;go_ret;exact⟨au (HE.out (by omega)).symm,aU.out.trans (HG.out.alloc _)⟩
      ·go_wp2;go_ret;exact⟨au (HE.out (by omega)).symm,aU.out.trans (HG.out.alloc _)⟩
      ·go_wp2;go_ret;exact⟨au (HE.out (by omega)).symm,aU.out.trans (HG.out.alloc _)⟩
      ·go_wp2;go_roundw
       case rel=>exact⟨j+1,by omega,by go_num,HN.out (by omega),HG.out.alloc _⟩
       case measure=>simp[intOf];omega
     ·have HE:Hid (wrong m hs ps=0):=by
       have e:=HA.out;rw[show j=pn by omega,<-PL.out,ap9]at e;unfold Hid;rw[HW3.out,e];rfl
      go_wp2;go_ret;exact⟨au HE.out.symm,aU.out.trans HG.out⟩
theorem sK {base e sz:Nat}{v:Value}{xs:List Value}(h:w.ownsRow base e sz v n xs)(hn:1<=n):∃g cap,v=.slice (some ⟨g,0,none⟩) n cap/\base<=g:=by
 obtain⟨_,h⟩:=h;rcases h with⟨_,h0⟩|⟨g,cap,cur,hv,hb,_⟩
 ·omega
 ·exact⟨g,cap,hv,hb⟩
theorem ac9:(prog.info? 43).map (fun i=>(i.zero,i.size,i.bytes))=some (some (.agg (hA h0)),37,160):=by kernel_rfl
def Zh (w:World) (g n:Nat):Prop:=∃cur,w.heap[g]?=some (.cells cur 43 (0,0))/\cur.size=n*37/\n<=maxLen
theorem Na {w:World}{base g n c:Nat}{xs:List Value}(h:w.ownsRow base 43 37 (.slice (some ⟨g,0,none⟩) n c) n xs):Zh w g c:=by
 rcases h.2 with⟨h0,_⟩|⟨g',cap',cur,hv,hb,hg,hn,hm,hs',htake⟩
 ·cases h0
 ·simp only[avg,auj,Addr.mk.injEq,au7,and_true]at hv;obtain⟨rfl,rfl⟩:=hv;exact⟨cur,hg,hs',hm⟩
theorem Zh.to {w w':World}{g n:Nat}(h:Zh w g n)(q:∀(k:Nat) (o:Array Value) (f:Nat×Nat),w.heap[k]?=some (.cells o 43 f)->w'.heap[k]?=w.heap[k]?):Zh w' g n:=by obtain⟨cur,e,z⟩:=h;exact⟨cur,(q _ _ _ e).trans e,z⟩
theorem Zh.of {w w':World}{g n:Nat}(h:Zh w g n)(G:Gr w w'):Zh w' g n:=h.to fun k o f e=>G.block _ (gs e).1
theorem Zh.setCell {w:World}{g n:Nat}(h:Zh w g n)(i:Nat)(v:Value):Zh (w.setCell ⟨g,i,none⟩ v) g n:=by obtain⟨cur,e,z⟩:=h;exact⟨_,hss e,by rw[ap4];exact z.1,z.2⟩
theorem Zh.setCells {w:World}{g n:Nat}(h:Zh w g n):∀(vs:List Value) (o:Nat),Zh (w.setCells g o vs) g n
 | [],o=>h
 |v::r,o=>by rw[World.setCells];exact Zh.setCells (h.setCell o v) r (o+1)
theorem uy {ad:Addr}(cap:Nat)(H:Hs w (some ad) n hs)(hn1:1<=n)(hn:n<=4):Calls prog 37 #[.slice (some ad) n cap] w fun e w'=>∃g c,e=.returned (.slice (some ⟨g,0,none⟩) n c)/\w.heap.size<=g/\(bP w' g hs/\Zh w' g c)/\Gr w w':=by
 obtain⟨i0,hi,hz0,hz1,hz2⟩:=auz ac9;have HH:=kH H;have HL:=kH H.len;have HO:=kH H.ok;have he:∀w:World,(binOp .eql 26 (.slice (some ad) n cap) (.slice none 0 0)).run prog w=.ok (.bool false) w:=fun _=>by kernel_rfl
 go_enter func37,ntmps37;go_wp2_with (at_builtin;refine auK _ rfl (.tmp 5) (.tmp 6) 26 rfl w.heap.size 43 i0 (.agg (hA h0)) 37 160 underlying26 hi hz0 hz1 hz2 rfl (by decide) _ 0 [] rfl (avf w #[] 0 (apn _) (by decide) rfl) ad n cap (hC hs) rfl (by rw[oG HO.out,HL.out]) (HH.out.of ((Gr.refl _).alloc _)).src (DL hs) (by unfold maxLen;omega) (by omega) (by simp) ?_;intro v' w1 hown hgrow _;have HOw:Hid (w1.ownsRow w.heap.size 43 37 v' n (hC hs)):=(by unfold Hid;simpa using hown);have HG:Hid (Gr w w1):=((Gr.refl _).alloc _).grown hgrow (fun k e=>aq6 (aum e));clear hown hgrow);obtain⟨g,c,rfl,hg⟩:=sK HOw.out hn1;have HR:Hid (bP w1 g hs/\Zh w1 g c):=⟨bP.own HO.out HOw.out,Na HOw.out⟩;go_ret;exact⟨g,c,rfl,hg,HR.out,HG.out⟩
end Mc
namespace Mc
variable [Inhabited Go.Proofs.YtiadhbmnfjfioaaGreatDoor.Hc.bN]
open Mm Hh Hc

variable {ty :Nat} {rs :List Value}
theorem bP.of {w w':World}{g:Nat}{hs:List Hv}(r:bP w g hs)(G:Gr w w'):bP w' g hs:=by obtain⟨rest,e⟩:=r.row;exact⟨r.ok,rest,(G.block _ (gs e).1).trans e⟩
theorem gT {w w':World}{base:Nat}{v:Value}{l:List UInt8}(h:Own w base v l)(G:Gr w w'):Own w' base v l:=h.to fun k o f e=>G.block _ (gs e).1
structure Bw (ty:Nat) (rs:List Value) (w:World) (base g:Nat) (M:Value) (gh hc:Nat) (O:Value) (s:Sh):Prop where
 t1:ty≠5
 t2:ty≠37
 t3:ty≠43
 bg:base<=g
 blk:w.heap[g]?=some (.cells (M::.slice (some ⟨gh,0,none⟩) s.hs.length hc::O::.int .i64 s.steps::rs).toArray ty (0,0))
 mem:Own w Hc.mb M s.m
 bh:base<=gh
 row:bP w gh s.hs
 out:w.ownsRow base 37 1 O s.out.length (s.out.map (Value.int .u32))
 hz:Zh w gh hc/\Hc.mb<=base
def Bd (ty:Nat) (rs:List Value) (w:World) (base g:Nat) (s:Sh):Prop:=∃M gh hc O,Bw ty rs w base g M gh hc O s
theorem Bw.of {w w':World}{base g:Nat}{M:Value}{gh hc:Nat}{O:Value}{s:Sh}(B:Bw ty rs w base g M gh hc O s)(G:Gr w w'):Bw ty rs w' base g M gh hc O s:=⟨B.t1,B.t2,B.t3,B.bg,(G.block _ (gs B.blk).1).trans B.blk,gT B.mem G,B.bh,B.row.of G,aj B.out fun k o f e=>G.block _ (gs e).1,⟨B.hz.1.of G,B.hz.2⟩⟩
section
variable {w :World} {base g gh hc :Nat} {M O :Value} {s :Sh}
theorem Bw.lt (B:Bw ty rs w base g M gh hc O s):g<w.heap.size:=(gs B.blk).1
theorem Bw.c0 (B:Bw ty rs w base g M gh hc O s):w.cell? ⟨g,0,none⟩=some M:=(cr B.blk).trans (by simp)
theorem Bw.c1 (B:Bw ty rs w base g M gh hc O s):w.cell? ⟨g,1,none⟩=some (.slice (some ⟨gh,0,none⟩) s.hs.length hc):=(cr B.blk).trans (by simp)
theorem Bw.c2 (B:Bw ty rs w base g M gh hc O s):w.cell? ⟨g,2,none⟩=some O:=(cr B.blk).trans (by simp)
theorem Bw.c3 (B:Bw ty rs w base g M gh hc O s):w.cell? ⟨g,3,none⟩=some (.int .i64 s.steps):=(cr B.blk).trans (by simp)
theorem Bw.rest (B:Bw ty rs w base g M gh hc O s)(i:Nat):w.cell? ⟨g,4+i,none⟩=rs[i]?:=(cr B.blk).trans (by rw[apm,Nat.add_comm];rfl)
end

theorem DR (a b c:Option Addr)(n1 n2 n3 c1 c2 c3:Nat)(x:Int):(#[.slice a n1 c1,.slice b n2 c2,.slice c n3 c3,.int .i64 x]:Array Value).all (·.oneCell')=true:=by refine auE ?_;intro v hv;simp only[apx,apB,auw]at hv;rcases hv with rfl|rfl|rfl|rfl<;>rfl
theorem iB:(prog.info? 84).map (·.size)=some 4:=by kernel_rfl
theorem rJ {ma ha pa:Option Addr}{hn pn:Nat}(mc hc pc:Nat){m:List UInt8}{hs:List Hv}{ps:List (Int×Int)}{w:World}(mn:Nat)(lU:m.length=mn)(H:Hs w ha hn hs)(P:Ps w pa pn ps)(b1:mn<=140737488351232)(b2:hn<=140737488351232)(b3:pn<=140737488351232)(hno:¬wrong m hs ps=0):Calls prog 22 #[.agg #[.slice ma mn mc,.slice ha hn hc],.slice pa pn pc] w fun e w'=>e=.returned (.tuple #[.agg #[.slice none 0 0,.slice none 0 0,.slice none 0 0,.int .i64 0],.int .i64 (wrong m hs ps)])/\Gr w w':=by
 have HM:Hid (∀W:World,Gr w W->Calls prog 55 #[.agg #[.slice ma mn mc,.slice ha hn hc],.slice pa pn pc] W fun e w'=>e=.returned (.int .i64 (wrong m hs ps))/\Gr W w'):=fun W G=>uw mc hc pc mn lU (H.of G) (P.of G) b1 b2 b3
 generalize wrong m hs ps=E at *
 have hE:(E !=0)=true:=by simpa using hno
 go_enter func22,ntmps22;go_wp2_with fail;refine(HM.out _ (((Gr.refl _).alloc _).alloc _)).mono ?_;rintro e w1 ⟨rfl,G1⟩;have aU:=kH ((((Gr.refl _).alloc _).alloc _).trans G1);have HB:=kH ((fA G1).2);have HI:=kH iB;go_wp2_with (refine auf rfl 84 _ _ rfl (w.heap.size+1) #[.slice none 0 0,.slice none 0 0,.slice none 0 0,.int .i64 0] rfl rfl 84 _ ?hb HI.out rfl (by kernel_rfl) ?_;(case hb=>exact HB.out));refine auc (v:=.tuple #[.agg _,.int .i64 E]) (Hr.aI results22 _ _ _ _ _ (0,0) _ _ rfl rfl (aup _ _ _ _ _ (0,0) HB.out) underlying84 rfl HI.out) rfl ⟨rfl,?_⟩;exact ag aU.out (aqi _) _
theorem wU {ma:Option Addr}{mc:Nat}{m:List UInt8}{w:World}{mn:Nat}(M:Mem w ma mn m)(hcap:ma=none->mc=0)(hn:mn<=4096)(hmb:Hc.mb<=w.heap.size):Calls prog 36 #[.slice ma mn mc] w fun e w'=>∃a c,e=.returned (.slice a mn c)/\Own w' Hc.mb (.slice a mn c) m/\Gr w w':=
 (qQ M hcap (by omega)).mono fun e w' ⟨v,e1,e2,e3⟩=>by
  obtain⟨a,c,rfl,_⟩:=e2.mem;have:=M.len;rw[this]at e1 e2;exact⟨a,c,e1,e2.base (w':=w') hmb,e3⟩
theorem kQ {ma ha pa:Option Addr}{hn pn:Nat}(mc hc pc:Nat){m:List UInt8}{hs:List Hv}{ps:List (Int×Int)}{w:World}(mn:Nat)(M:Mem w ma mn m)(hcap:ma=none->mc=0)(H:Hs w ha hn hs)(P:Ps w pa pn ps)(b3:pn<=140737488351232)(hy:wrong m hs ps=0)(b1:mn<=4096)(b2:1<=hn)(b4:hn<=4)(hmb:Hc.mb<=w.heap.size):Calls prog 22 #[.agg #[.slice ma mn mc,.slice ha hn hc],.slice pa pn pc] w fun e w'=>∃a c gh hc,e=.returned (.tuple #[.agg #[.slice a mn c,.slice (some ⟨gh,0,none⟩) hn hc,.slice none 0 0,.int .i64 0],.int .i64 0])/\Own w' Hc.mb (.slice a mn c) m/\w.heap.size<=gh/\(bP w' gh hs/\Zh w' gh hc)/\Gr w w':=by
 have HM:Hid (∀W:World,Gr w W->Calls prog 55 #[.agg #[.slice ma mn mc,.slice ha hn hc],.slice pa pn pc] W fun e w'=>e=.returned (.int .i64 0)/\Gr W w'):=fun W G=>by rw[<-hy];exact uw mc hc pc mn M.len (H.of G) (P.of G) (by omega) (by omega) b3
 obtain⟨b,o,rfl,_,_⟩:=H.spot (by omega);have C1:Hid (∀W:World,Gr w W->_):=fun W G=>wU (M.of G) hcap b1 (apr hmb G.size)
 have C2:Hid (∀W:World,Gr w W->Calls prog 37 #[.slice (some ⟨b,o,none⟩) hn hc] W fun e w'=>∃g c,e=.returned (.slice (some ⟨g,0,none⟩) hn c)/\w.heap.size<=g/\(bP w' g hs/\Zh w' g c)/\Gr W w'):=fun W G=>(uy hc (H.of G) b2 b4).mono fun e w' ⟨g,c,e1,e2,e3⟩=>⟨g,c,e1,apr G.size e2,e3⟩
 go_enter func22,ntmps22;go_wp2_with fail;refine(HM.out _ (((Gr.refl _).alloc _).alloc _)).mono ?_;rintro e w1 ⟨rfl,G1⟩;have aU:=kH ((((Gr.refl _).alloc _).alloc _).trans G1);have HA:=kH ((fA G1).1);have HB:=kH ((fA G1).2);have k0:=iE HA.out;have k1:=iY HA.out;go_wp2_with fail;have hlt:=(gs HA.out).1;have hne:w1.heap.size≠w.heap.size:=by omega
 go_region_held3 (fun W=>W.cell? ⟨w.heap.size,0,none⟩=some (.slice ma mn mc)∧W.cell? ⟨w.heap.size,1,none⟩=some (.slice (some ⟨b,o,none⟩) hn hc)) (first|go_keep|(constructor<;>assumption)) (first
  |(go_at_call 36;refine(C1.out _ (by repeat (first|exact aU.out|refine Gr.drew ?_|refine Gr.alloc ?_ _))).mono ?_;rintro e w2 ⟨a2,c2,rfl,O2,G2⟩;have kY:Hid (Own w2 Hc.mb (.slice a2 mn c2) m):=O2;have HG2:Hid (Gr w1 w2):=Gr.trans (by repeat (first|exact Gr.refl w1|refine Gr.drew ?_|refine Gr.alloc ?_ _)) G2;have ll:Hid (w2.heap[w1.heap.size]?=some (.cells #[.slice none 0 0,.slice none 0 0,.slice none 0 0,.int .i64 0] 84 (0,0))):=Hr.ae ((Gr.refl (w1.alloc _)).drew.trans G2) (at5 w1 _);have q0:w2.cell? ⟨w.heap.size,0,none⟩=some (.slice ma mn mc):=cr (Hr.ae HG2.out HA.out);have q1:w2.cell? ⟨w.heap.size,1,none⟩=some (.slice (some ⟨b,o,none⟩) hn hc):=cr (Hr.ae HG2.out HA.out);clear G2 O2 k0 k1 C1)
  |(go_at_call 37;refine(C2.out _ (by repeat (first|exact aU.out.trans HG2.out|refine Gr.drew ?_|refine Gr.alloc ?_ _))).mono ?_;rintro e w3 ⟨g3,c3,rfl,hg3,R3,G3⟩;have HR3:Hid (bP w3 g3 hs):=R3.1;have HZ3:Hid (Zh w3 g3 c3):=R3.2;have yD:Hid (Own w3 Hc.mb (.slice a2 mn c2) m):=gT kY.out G3;have fQ:Hid (Gr w1 w3):=HG2.out.trans G3;have zP:Hid (w3.heap[w1.heap.size]?=some (.cells #[.slice none 0 0,.slice none 0 0,.slice none 0 0,.int .i64 0] 84 (0,0))):=Hr.ae G3 ll.out;have q3:w3.cell? ⟨w.heap.size,0,none⟩=some (.slice ma mn mc):=cr (Hr.ae fQ.out HA.out);have q4:w3.cell? ⟨w.heap.size,1,none⟩=some (.slice (some ⟨b,o,none⟩) hn hc):=cr (Hr.ae fQ.out HA.out);have z0:w3.cell? ⟨w1.heap.size,0,none⟩=some (.slice none 0 0):=cr zP.out;have z1:w3.cell? ⟨w1.heap.size,1,none⟩=some (.slice none 0 0):=cr zP.out;have z2:w3.cell? ⟨w1.heap.size,2,none⟩=some (.slice none 0 0):=cr zP.out;have z3:w3.cell? ⟨w1.heap.size,3,none⟩=some (.int .i64 0):=cr zP.out;have f0:w3.frozen? ⟨w1.heap.size,0,none⟩=false:=lh zP.out;have f1:w3.frozen? ⟨w1.heap.size,1,none⟩=false:=lh zP.out;clear G3 R3 C2 q0 q1 kY HG2 ll))
 have hlt2:=(gs HB.out).1;have HB3:=kH (Hr.ae fQ.out HB.out);have hne2:w1.heap.size≠w.heap.size+1:=by omega
 have HI:=kH iB;go_wp2_with (refine auf rfl 84 _ _ rfl (w.heap.size+1) #[.slice a2 mn c2,.slice (some ⟨g3,0,none⟩) hn c3,.slice none 0 0,.int .i64 0] rfl rfl 84 #[.slice none 0 0,.slice none 0 0,.slice none 0 0,.int .i64 0] ?hb HI.out rfl (DR _ _ _ _ _ _ _ _ _ _) ?_;(case hb=>(rw[hso (by exact hne2.symm),hso (by exact hne2.symm)];exact HB3.out)));refine auc (v:=.tuple #[.agg _,.int .i64 0]) (Hr.aI results22 _ _ _ _ _ (0,0) _ _ rfl rfl (Ig (by rw[hso (by exact hne2.symm),hso (by exact hne2.symm)];exact HB3.out)) underlying84 rfl HI.out) rfl ?_;have ne:∀(t:Nat) (k:Nat) (q:Array Value) (f:Nat×Nat),t≠84->w3.heap[k]?=some (.cells q t f)->(((w3.setCell ⟨w1.heap.size,0,none⟩ (.slice a2 mn c2)).setCell ⟨w1.heap.size,1,none⟩ (.slice (some ⟨g3,0,none⟩) hn c3)).setRow (w.heap.size+1) #[.slice a2 mn c2,.slice (some ⟨g3,0,none⟩) hn c3,.slice none 0 0,.int .i64 0]).heap[k]?=w3.heap[k]?:=fun t k q f ht hk=>by
  have n1:=aa hk zP.out ht;have n2:=aa hk HB3.out ht;rw[sV n2,hso (by exact n1),hso (by exact n1)]
 refine⟨a2,c2,g3,c3,rfl,yD.out.to fun k q f hk=>ne _ k q f (by decide) hk,hg3,?_,?_⟩
 ·obtain⟨rest,hr⟩:=HR3.out.row;exact⟨⟨HR3.out.ok,rest,(ne _ _ _ _ (by decide) hr).trans hr⟩,HZ3.out.to fun k q f hk=>ne _ k q f (by decide) hk⟩
 ·exact ag (((aU.out.trans fQ.out).setCell (aqP hlt) _).setCell (aqP hlt) _) (aqi _) _
end Mc
end Go.Proofs.YtiadhbmnfjfioaaGreatDoor
