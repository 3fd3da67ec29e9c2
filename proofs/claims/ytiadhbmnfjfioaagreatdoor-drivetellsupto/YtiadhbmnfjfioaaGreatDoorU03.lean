/- ours -/
import Derived.Test.YtiadhbmnfjfioaaGreatDoorU02
set_option linter.unusedVariables false
set_option linter.unusedSimpArgs false
set_option maxHeartbeats 8000000
set_option maxRecDepth 100000
set_option linter.unusedSectionVars false
namespace Go.Proofs.YtiadhbmnfjfioaaGreatDoor
open Go.Value (int slice pointer agg tuple)
open Go.IntKind (i64 i32)
open Go.Ending (returned)
open Go.Operand (tmp)
open Go.Proofs.Tryz hiding cs d0 d1 d2 parts t0 t1 t2 t3
open Go.ChangeShapes Go.WideShapes Go.ChangeAt Go.RowKit
variable{a:Act}{K:Act->World->Prop}{ad:Addr}{listed:Array Bool}{ops:Array Oper}{fn:Func}{ps ss:List (Int×Int)}{os:List Int}{l m m':List UInt8}{xs olds news rs:List Value}{n b t hn k cap pn e sz g c mc mn fuel i gh hc cn j ty size bytes:Nat}{f:Nat×Nat}{x:Obj}{o:Oper}{ao ma ha pa ca va:Option Addr}{P:Program}{E:Prop}{z v z0 M O vx M' u:Value}{w w':World}{S p:World->Prop}
namespace Hc
variable[Inhabited Hc.bH]
open Mm Hh
variable{t:TypeId}{h:Hv}{Q:Exit->Act->World->Prop}
theorem jg (off)(v cs:Array Value):(v.zipIdx.foldl (fun cs (x)=>cs.setIfInBounds (off+x.2) x.1) cs).size=cs.size/\ ∀k,(v.zipIdx.foldl (fun cs (x)=>cs.setIfInBounds (off+x.2) x.1) cs)[k]?=if off<=k/\k<off+v.size/\k<cs.size then v[k-off]? else cs[k]?:=by have h:=Great.foldl_set off v.toList 0 cs;rw[<-Array.foldl_toList,Array.toList_zipIdx];refine⟨h.1,fun k=>?_⟩;rw[h.2 k];simp
theorem Li {it}{fs}{ps}(hi:P.info? t=some it)(hu:P.underlying t=some (.struct fs))(hz:it.zero=some z)(hp:fs.toList.mapM (fun f=>(P.info? f.type).map fun i=>(f.offset,i.size))=some ps){n}(p0:ps.toArray[0]?=some (0,n))(p1:ps.toArray[1]?=some (n,1))(A)(hA:A.size=n)(v)(hv:v.cells=#[v])(hs:n+1<=z.cells.size)(R)(hR:R.size=z.cells.size)(h1:∀k,k<n->R[k]?=A[k]?)(h2:R[n]?=some v)(h3:∀k,n<k->R[k]?=z.cells[k]?):P.built t [(0,.agg A),(1,v)]=some R:=by
 unfold Program.built;simp only[hi,hu,hz,hp];have a1:=jg 0 A z.cells;have a2:=jg n #[v] (A.zipIdx.foldl (fun cs (x:Value×Nat)=>cs.setIfInBounds (0+x.2) x.1) z.cells);unfold Instr.fill;simp only[p0];have e:(Value.agg A).cells=A:=rfl;rw[e,awm (by simp[hA];omega)];unfold Instr.fill;simp only[p1];rw[hv,awm (by rw[a1.1];simp;omega)];unfold Instr.fill;congr 1;apply asU;intro k;rw[a2.2 k,a1.2 k,a1.1];by_cases hk:k<n
 ·rw[ak,eB,h1 k hk];simp
 ·by_cases hk2:k=n
  ·subst hk2;rw[awn aE,h2];simp
  ·rw[awm aE,ak,h3 k ab]
theorem lJ (h:(P.info? t).bind (·.zero)=some v):∃it,P.info? t=some it/\it.zero=some v:=by
 cases hi:P.info? t with
 |none=>simp[hi]at h
 |some it=>exact⟨it,rfl,by simpa[hi]using h⟩
def h0:Hv:=⟨List.replicate 32 0,0,false,0,0,0⟩
theorem jA:h0.Ok:=⟨rfl,fun i=>by unfold rg h0;simp only[List.getD,as0];split<;>simp,an,an,an,an⟩
def ay:Value:=slice none 0 0
theorem zR (c)(h1:c.m.oneCell'=true)(h2:c.out.oneCell'=true)(h3:c.ax.oneCell'=true):(cA c).all (·.oneCell')=true:=by refine aw0 ?_;intro v hv;simp only[hL,ar7,arY,arG,arN,awQ]at hv;rcases hv with(⟨n,_,rfl⟩|rfl|rfl|rfl|rfl|rfl)|rfl|rfl|rfl<;>first|rfl|assumption
theorem afj:(prog.info? 197).bind (·.zero)=some (agg (cA ⟨h0,ay,ay,ay⟩)):=al
theorem vP (o:h.Ok)(v)(hv:v.cells=#[v]):prog.built 197 [(0,agg (hA h)),(1,v)]=some (cA ⟨h,v,ay,ay⟩):=by
 obtain⟨it,hi,hz⟩:=lJ afj;have hl:=aF o;have z:=aF jA;refine Li (n:=37) hi underlying197 hz (ps:=[(0,37),(37,1),(38,1),(39,1)]) al rfl rfl (hA h) (kE o) v hv (by show 38<=(cA _).size;rw[kF jA];omega) _ ?_ ?_ ?_ ?_
 ·show(cA _).size=(cA _).size;rw[kF (c:=⟨h,v,ay,ay⟩) o,kF jA]
 ·intro k hk;rw[Ol (c:=⟨h,v,ay,ay⟩) o hk];simp[hA]
 ·exact rY (c:=⟨h,v,ay,ay⟩) o 0
 ·intro k hk;obtain⟨j,rfl⟩:∃j,k=37+(j+1):=⟨k-38,ab⟩;show(cA _)[_]?=(cA _)[_]?
  rw[rY (c:=⟨h,v,ay,ay⟩) o,rY (c:=⟨h0,ay,ay,ay⟩) jA];rfl
theorem yu (hg:o.guard=none)(ty)(x)(ho:o.op=.load ty x)(b)(hx:a.eval x=.pointer (some ⟨b,0,none⟩))(cs)(d)(hc:w.rangeAt b 0 cs)(hu:P.underlying ty=some d)(hd:d.isRow=true)(hi:(P.info? ty).map (·.size)=some cs.length)(h:K (a.put o.dst (.agg cs.toArray)) w):if Region.wanted o (yielded ops a.tmps)=true then Oper.wp P o a w K Q else E:=by rw[awn (by simp[Region.wanted,hg])];exact wp_load_mid ty x ho b 0 hx cs d hc hu hd hi h
theorem vQ (hg:o.guard=none)(t)(parts)(ho:o.op=.build t parts)(cells)(hf:P.built t (parts.map fun(i,x)=>(i,a.eval x)).toList=some cells)(h:K (a.put o.dst (agg cells)) w):if Region.wanted o (yielded ops a.tmps)=true then Oper.wp P o a w K Q else E:=by rw[awn (by simp[Region.wanted,hg])];unfold Oper.wp execOp;simp only[ho,axl,axm w t _ _ hf,aw8];exact h
theorem iM (hg:o.guard=none)(ty)(x y)(ho:o.op=.store ty x y)(g)(cells)(hx:a.eval x=pointer (some ⟨g,0,none⟩))(hy:a.eval y=agg cells)(t)(old)(hb:w.heap[g]?=some (.cells old t (0,0)))(hi:(P.info? ty).map (·.size)=some cells.size)(hold:old.size=cells.size)(h1:cells.all (·.oneCell')=true)(h:K (a.put o.dst undef) (w.setRow g cells)):if Region.wanted o (yielded ops a.tmps)=true then Oper.wp P o a w K Q else E:=by rw[awn (by simp[Region.wanted,hg])];unfold Oper.wp execOp;simp only[ho,hx,hy,Instr.storeAt,Instr.sureAddr,axl,axy,aw8,run_storeVar_row w g t ty old cells hb hi hold h1];exact h
end Hc
namespace Hc
variable[Inhabited Hc.bH]
open Mm Hh
end Hc
namespace Hc
variable[Inhabited Hc.bH]
open Mm Hh
structure Wm (w:World) (ao:Option Addr) (n:Nat) (os:List Int):Prop where
 len:os.length=n
 nil:ao=none->n=0
 cell:∀ad,ao=some ad->∀t,t<n->w.cell? (ad.add t)=some (int .u32 (os.getD t 0))
theorem Wm.of (h:Wm w ao n os)(g:Gr w w'):Wm w' ao n os:=⟨h.len,h.nil,fun ad e t ht=>(g.cell _ (awo w _ (h.cell ad e t ht))).trans (h.cell ad e t ht)⟩
theorem Wm.spot (h:Wm w ao n os)(hn:0<n):∃b o,ao=some ⟨b,o,none⟩/\b<w.heap.size/\∀t,t<n->w.cell? ⟨b,o+t,none⟩=some (int .u32 (os.getD t 0)):=by
 cases ao with
 |none=>exact absurd (h.nil rfl) ab
 |some ad=>
  obtain⟨b,o,s⟩:=ad;have hs:s=none:=by simpa[Addr.add]using axv (h.cell _ rfl 0 hn)
  subst hs;have hb:b<w.heap.size:=by simpa[Addr.add]using awo w _ (h.cell _ rfl 0 hn)
  exact⟨b,o,rfl,hb,fun t ht=>by rw[<-cK];exact h.cell _ rfl t ht⟩
theorem PW {base}(hl:os.length=n)(h:w.ownsRow base 37 1 v n (os.map (Value.int .u32))):∃ao cap,v=slice ao n cap/\Wm w ao n os:=by
 obtain⟨_,h⟩:=h;rcases h with⟨rfl,h0⟩|⟨g,cap,cur,rfl,hb,hg,hn,hm,hs,ht⟩
 ·subst h0;exact⟨none,0,rfl,hl,fun _=>rfl,fun ad e=>(by cases e)⟩
 ·refine⟨_,cap,rfl,hl,fun e=>(by cases e),fun ad e t htn=>?_⟩;obtain rfl:=aws e;rw[cK,arH,cr hg];have h1:(cur.toList.take (n*1))[t]?=some (int .u32 (os.getD t 0)):=by
   rw[ht,ar3];simp[List.getD,arq (show t<os.length by omega)]
  rw[List.getElem?_take_of_lt ab]at h1;simpa using h1
section
variable{rest:List Oper}{op:Oper}{Q:Exit->Act->World->Prop}
theorem wpList_want (hw:Region.wanted op (yielded ops a.tmps)=true)(h:∀K,(∀a w,wpList P ops Q rest a w->K a w)->op.wp P a w K Q):wpList P ops Q (op::rest) a w:=wpList_step fun K hK=>by rw[awn hw];exact h K hK
theorem lK (hw:Region.wanted op (yielded ops a.tmps)=true)(ty)(x)(ho:op.op=.load ty x)
  (g)(hx:a.eval x=.pointer (some ⟨g,0,none⟩))(t)(cs)(fr)(d)(hg:w.heap[g]?=some (.cells cs t fr))
  (hu:P.underlying ty=some d)(hd:(match d with|.struct _|.array _ _=>true|_=>false)=true)(hi:(P.info? ty).map (·.size)=some cs.size)
  (h:wpList P ops Q rest (a.put op.dst (.agg cs)) w):wpList P ops Q (op::rest) a w:=
 wpList_want hw fun _ hK=>wp_load_row ty x ho g hx t cs fr d hg hu hd hi (hK _ _ h)
theorem iN (hw:Region.wanted op (yielded ops a.tmps)=true)(ty)(x)(ho:op.op=.load ty x)(b o)(hx:a.eval x=.pointer (some ⟨b,o,none⟩))(cs)(d)(hc:w.rangeAt b o cs)(hu:P.underlying ty=some d)(hd:d.isRow=true)(hi:(P.info? ty).map (·.size)=some cs.length)(h:wpList P ops Q rest (a.put op.dst (.agg cs.toArray)) w):wpList P ops Q (op::rest) a w:=wpList_want hw fun _ hK=>wp_load_mid ty x ho b o hx cs d hc hu hd hi (hK _ _ h)
end
end Hc
namespace Mc
variable[Inhabited Hc.bH]
open Mm Hh Hc
theorem aR {a b}(h:a=b):Ending.returned (.bool a)=returned (.bool b):=by rw[h]
theorem Lj {x f t}(hx0:0<=x)(hx:x<4294967296)(hf0:0<=f)(hf:f<4294967296)(w):Calls prog 108 #[int .u32 x,agg #[int .u32 f,int .u32 t]] w fun e w'=>e=returned (.bool (decide (x<t) && decide (f<x+4)))/\Gr w w':=by
 by_cases h1:x<t
 ·have HE:Hid ((decide (x<t) && decide (f<x+4))=decide (f<x+4)):=by unfold Hid;simp[h1]
  rw[HE.out];go_enter func108,ntmps108;go_wp2;go_ret;exact⟨rfl,(Gr.refl _).alloc _⟩
 ·have HE:Hid ((decide (x<t) && decide (f<x+4))=false):=by unfold Hid;simp[h1]
  rw[HE.out];go_enter func108,ntmps108;go_wp2;go_ret;exact⟨rfl,(Gr.refl _).alloc _⟩
def kR (mn:Nat) (hs:List Hv):Bool:=decide (mn<=4096/\1<=hs.length/\hs.length<=4) && hs.all may
theorem Ll (m)(hs)(ps):wrong m hs ps=if kR m.length hs=false then 2 else if 300<ps.length then 1 else if ps.all (jS hs.length)=false then 3 else 0:=by
 unfold wrong kR;by_cases h:4096<m.length\/hs.length<1\/4<hs.length
 ·rw[awn h,awn];rw[awq ab];rfl
 ·rw[awm h,awC (show m.length<=4096/\1<=hs.length/\hs.length<=4 by omega)];simp only[atE]
theorem ng (mc hc){hs}(mn)(H:Hs w ha hn hs)(b1:mn<=140737488351232)(b2:hn<=140737488351232):Calls prog 34 #[agg #[slice ma mn mc,slice ha hn hc]] w fun e w'=>e=returned (.bool (kR mn hs))/\Gr w w':=by
 have hl:=H.len;by_cases c1:4096<mn\/hn<1\/4<hn
 ·have HE:Hid (kR mn hs=false):=by unfold Hid kR;rw[awq ab];rfl
  have c2:4096<mn\/(¬4096<mn/\hn<1)\/(¬4096<mn/\¬hn<1/\4<hn):=ab;rcases c2 with c|⟨c,d⟩|⟨c,d,e⟩
  all_goals
   go_enter func34,ntmps34;go_wp2;go_ret;exact⟨aR HE.symm,(Gr.refl _).alloc _⟩
 ·have n1:¬4096<mn:=ab;have n2:¬hn<1:=ab;have n3:¬4<hn:=ab;obtain⟨b,o,rfl,hb,hcell⟩:=H.spot ab;have HW:Hid (kR mn hs=hs.all may):=by unfold Hid kR;rw[awC ab];rfl
  have HK:=kH hcell;have HO:=kH H.ok;have HL:=kH hl;go_enter func34,ntmps34;go_wp2;go_loopw [24] (fun i wr=>∃k:Nat,k<=hn/\i=int i64 k/\(hs.take k).all may=true/\Gr w wr) (fun i _=>hn-(intOf i).toNat)
  case atStart=>exact⟨0,arQ _,rfl,rfl,(Gr.refl _).alloc _⟩
  case round=>
   obtain⟨k,hk,rfl,hall,G⟩:=hrel;have HG:=kH G;have HA:=kH hall;by_cases hlt:k<hn
   ·obtain⟨h,hh⟩:∃h,hs[k]?=some h:=⟨_,arq (by rw[HL.out];exact hlt)⟩;have HH:=kH hh;have kS:=HO h (arE hh);have RG:Hid (wr.rangeAt b (o+k*37) (hL h)):=fun j v hv=>(HG.cell _ (by exact hb)).trans (HK k h hh j v hv)
    have qY:=kH (aF kS);have rO:Hid ((hL h).toArray.size=37):=by unfold Hid;simp[qY.out]
    have FQ:=kH (rW h);have M1:Hid (∀W:World,_):=fun W=>zC kS W
    have PX:Hid (∀Y:Array Value,Gr wr ((wr.alloc (.cells Y 43)).setRow wr.heap.size (hL h).toArray)):=fun Y=>ag br (arA _) _
    have I5:Hid (∀Y:Array Value,((wr.alloc (.cells Y 43)).setRow wr.heap.size (hL h).toArray).heap[wr.heap.size]?=some (.cells (hL h).toArray 43 (0,0))):=fun Y=>awJ _ _ _ _ _ (0,0) (awk wr _)
    cases hmb:may h with
    |true=>
     have M2:Hid (∀W:World,Calls prog 69 #[agg (hL h).toArray] W fun e w'=>e=returned (.bool true)/\Gr W w'):=fun W=>by have:=M1 W;rwa[hmb]at this
     have HN:Hid ((hs.take (k+1)).all may=true):=by unfold Hid;rw[qX may hs k h HH.out,HA.out,hmb];rfl
     go_wp2_with (first
      |(refine awU rfl 43 _ rfl b (o+k*37) rfl (hL h) _ ?r1 underlying43 rfl (by rw[qY.out];exact iH) ?_;(case r1=>exact RG))
      |(refine awx rfl 43 _ _ rfl wr.heap.size (hL h).toArray rfl rfl 43 _ (awk wr _) (by rw[rO.out];exact iH) (by rw[rO.out];rfl) FQ ?_)
      |(refine aw6 rfl 43 _ rfl wr.heap.size rfl 43 (hL h).toArray (0,0) _ ?r2 underlying43 rfl (by rw[rO.out];exact iH) ?_;(case r2=>exact I5 _)))
     refine(M2 _).mono ?_;rintro e w1 ⟨rfl,G1⟩;have aU:=kH (HG.trans ((PX _).trans G1));go_wp2_with fail;go_roundw
     case rel=>exact⟨k+1,ab,by go_num,HN,aU⟩
     case measure=>simp[intOf];omega
    |false=>
     have M2:Hid (∀W:World,Calls prog 69 #[agg (hL h).toArray] W fun e w'=>e=returned (.bool false)/\Gr W w'):=fun W=>by have:=M1 W;rwa[hmb]at this
     have HE:Hid (kR mn hs=false):=by unfold Hid;rw[HW.out];exact all_false HH hmb
     go_wp2_with (first
      |(refine awU rfl 43 _ rfl b (o+k*37) rfl (hL h) _ ?r1 underlying43 rfl (by rw[qY.out];exact iH) ?_;(case r1=>exact RG))
      |(refine awx rfl 43 _ _ rfl wr.heap.size (hL h).toArray rfl rfl 43 _ (awk wr _) (by rw[rO.out];exact iH) (by rw[rO.out];rfl) FQ ?_)
      |(refine aw6 rfl 43 _ rfl wr.heap.size rfl 43 (hL h).toArray (0,0) _ ?r2 underlying43 rfl (by rw[rO.out];exact iH) ?_;(case r2=>exact I5 _)))
     refine(M2 _).mono ?_;rintro e w1 ⟨rfl,G1⟩;have aU:=kH (HG.trans ((PX _).trans G1));go_wp2_with fail;go_ret;exact⟨aR HE.symm,aU⟩
   ·have HE:Hid (kR mn hs=true):=by have:=HA;rw[show k=hn by omega,<-HL.out,ash]at this;unfold Hid;rw[HW.out];exact this
    go_wp2_with fail;go_ret;exact⟨aR HE.symm,HG⟩
end Mc
namespace Rw
end Rw
namespace Rw
end Rw
namespace Hr
open Mm Hh
theorem iH:(prog.info? 43).map (·.size)=some 37:=al
end Hr
namespace Mr
open Mm
variable{op a:Int}
end Mr
namespace Hr
open Mm Hh
theorem aL {p t:Tmp}{ty:TypeId}(h:fn.results=#[.cell p ty,.tmp t])(tmps:Array Value)(w)(g)(tt)(cs)(fr)(d)
  (v)(hp:tmps.getD p undef=.pointer (some ⟨g,0,none⟩))(hv:tmps.getD t undef=v)(hg:w.heap[g]?=some (.cells cs tt fr))
  (hu:P.underlying ty=some d)(hd:(match d with|.struct _|.array _ _=>true|_=>false)=true)(hi:(P.info? ty).map (·.size)=some cs.size):
  (results fn tmps).run P w=.ok (.tuple #[.agg cs,v]) w:=by
 subst hv;have hp':tmps[p]?.getD undef=.pointer (some ⟨g,0,none⟩):=by simpa using hp
 simp[results,h,hp',asAddr,axn w g tt ty cs fr d hg hu hd hi]
theorem ae (g:Gr w w')(h:w.heap[k]?=some x):w'.heap[k]?=some x:=by rw[axk g k (gs h).1];exact h
end Hr
namespace Hc
variable[Inhabited Hc.bH]
open Mm Hh
theorem abv (M:Mem w (some ad) n l)(G:Gr w w'):∀j u,(bc l)[j]?=some u->w'.cell? (ad.add j)=some u:=by intro j u hj;obtain⟨h1,rfl⟩:=zt hj;have hl:=M.len;exact(M.of G).cell ad rfl j ab
theorem PY {base}(hl:l.length=n)(h:w.ownsRow base 5 1 v n (bc l)):Own w base v l:=by
 subst hl;obtain⟨_,h⟩:=h;rcases h with⟨rfl,h0⟩|⟨g,cap,cur,rfl,hb,hg,hn,hm,hs,ht⟩
 ·exact .inl ⟨rfl,asa h0⟩
 ·refine .inr ⟨g,cap,rfl,⟨hb,hn⟩,cur.toList.drop (l.length*1),?_⟩;rw[<-ht,asr];exact⟨hg,by simpa using hs,hm⟩
theorem sI (M:Mem w ao n l)(hcap:ao=none->cap=0)(hn:n<=140737488351232):Calls prog 36 #[slice ao n cap] w fun e w'=>∃v,e=returned v/\Own w' w.heap.size v l/\Gr w w':=by
 have hl:=M.len;cases ao with
 |none=>
  obtain rfl:=M.nil rfl;obtain rfl:=hcap rfl;obtain rfl:l=[]:=asa hl;have he:∀w:World,(binOp .eql 25 (slice none 0 0) (slice none 0 0)).run prog w=.ok (.bool true) w:=fun _=>al
  go_enter func36,ntmps36;go_wp2;go_ret;exact⟨_,rfl,.inl ⟨rfl,rfl⟩,Gr.refl _⟩
 |some ad=>
  obtain⟨i0,hi,hz0,hz1,hz2⟩:=awS info5;have HM:=kH M;have he:∀w:World,(binOp .eql 25 (slice (some ad) n cap) (slice none 0 0)).run prog w=.ok (.bool false) w:=fun _=>al
  go_enter func36,ntmps36;go_wp2_with (at_builtin;refine awW _ rfl (tmp 5) (tmp 6) 25 rfl w.heap.size 5 i0 (int .u8 0) 1 1 underlying25 hi hz0 hz1 hz2 rfl an _ 0 [] rfl (axz w #[] 0 (arA _) an rfl) ad n cap (bc l) rfl (by rw[iE,hl];simp) (abv HM br) (zu l) bj ab aq ?_;intro v' w1 hown hgrow _;have HO:Hid (Own w1 w.heap.size v' l):=PY hl (by simpa using hown);have HG:Hid (Gr w w1):=br.grown hgrow (fun k e=>atr (aws e));clear hown hgrow);go_ret;exact⟨_,rfl,HO,HG⟩
theorem iC:(prog.info? 197).map (·.size)=some 40:=al
theorem fQ {A Z}{u:Nat}(g:Gr ((w.alloc (.cells A t)).alloc (.cells Z u)) w'):w'.heap[w.heap.size]?=some (.cells A t (0,0))/\w'.heap[w.heap.size+1]?=some (.cells Z u (0,0)):=⟨Hr.ae g (axb w _ _),Hr.ae g (axs w _ _)⟩
theorem Own.cells {w}{base}{v}{l}(h:Own w base v l):v.cells=#[v]/\v.oneCell'=true:=by rcases h with⟨rfl,_⟩|⟨k,cap,rfl,_⟩<;>exact⟨rfl,rfl⟩
theorem Own.base {w':World}{b'}(h:Own w b v l)(hb:b'<=b):Own w b' v l:=by
 rcases h with h|⟨k,cap,e,q,R⟩
 ·exact .inl h
 ·exact .inr ⟨k,cap,e,⟨arF hb q.1,q.2⟩,R⟩
theorem De {h}(e:w.heap[b]?=some (.cells (hA h) t (0,0))):w.rangeAt b 0 (hL h):=fun j v hv=>by rw[arH,awl _ _ _ _ _ _ e];simpa[hA]using hv
theorem Df {h}(o:h.Ok)(M:Mem w ao n l)(hcap:ao=none->cap=0)(hn:n<=4096)(hm:may h=true)(hs:h.state=0):Calls prog 143 #[agg (hA h),slice ao n cap] w fun e w'=>∃v,e=returned (tuple #[agg (cA ⟨h,v,ay,ay⟩),.bool true])/\Own w' w.heap.size v l/\Gr w w':=by
 have HM:Hid (∀W:World,Calls prog 69 #[agg (hA h)] W fun e w'=>e=returned (.bool true)/\Gr W w'):=fun W=>by rw[<-hm];exact zC o W
 have g35:(hA h)[35]?=some (int i64 0):=by rw[<-hs];exact(Iw h o).2.2.2.1
 have HS:=kH (kE o);have HL:=kH (aF o);have HC:Hid (∀W:World,Gr w W->Calls prog 36 #[slice ao n cap] W fun e w'=>∃v,e=returned v/\Own w' w.heap.size v l/\Gr W w'):=fun W G=>
  (sI (M.of G) hcap ab).mono fun e w' ⟨v,e1,e2,e3⟩=>⟨v,e1,e2.base (w':=w') G.size,e3⟩
 have PZ:Hid (∀v:Value,v.cells=#[v]->_):=fun v hv=>vP o v hv
 have HZ:Hid (∀v,(cA ⟨h,v,ay,ay⟩).size=40):=fun v=>kF o
 go_enter func143,ntmps143;go_wp2_with (refine aw6 rfl 43 _ rfl w.heap.size rfl 43 (hA h) (0,0) _ ?hb1 underlying43 rfl (by rw[HS.out];exact Hr.iH) ?_;(case hb1=>exact axb w _ _));refine(HM _).mono ?_;rintro e w1 ⟨rfl,G1⟩;obtain⟨hB,hR⟩:=fQ G1;have HG:=kH ((br.alloc _).trans G1);have Uj:=(awl _ _ _ _ _ _ hB).trans g35;have HB:=kH hB;have HR:Hid (∃Z:Array Value,Z.size=40/\w1.heap[w.heap.size+1]?=some (.cells Z 197 (0,0))):=⟨_,rfl,hR⟩;obtain⟨Z,hz,hR⟩:=HR;have HR2:=kH hR;go_wp2_with fail;refine axA al ?_;change wpAny _ _ _ _ _ _ _ (World.drew _);refine awL (i:=1) (v:=slice ao n cap) rfl al al al (fun _ _ _ h=>h) (Or.inl ⟨by rfl,fun w=>by go_simp⟩) ?_;refine awK (rs:=[0,2]) al aq ?_;refine awy rfl (fun K hK=>?_) (awy rfl (fun K hK=>?_) awF)
 ·refine yu rfl 43 (tmp 2) rfl w.heap.size ar (hL h) _ (De (by exact HB)) underlying43 rfl (by rw[HL.out];exact Hr.iH) ?_;refine hK _ _ ?_;refine awK (rs:=[2]) al aq ?_;refine awy rfl (fun K hK=>?_) awF;go_simp;refine(HC _ (by repeat (first|exact HG|refine Gr.drew ?_))).mono ?_;rintro e w2 ⟨v,rfl,O2,G2⟩;simp only[];refine hK _ _ ?_;have kT:=kH O2;have HG2:=kH ((Gr.refl w1).drew.trans G2);refine awK (rs:=[3]) al aq ?_;refine awy rfl (fun K hK=>?_) awF;refine vQ rfl 197 _ rfl (cA ⟨h,v,ay,ay⟩) (by have:=PZ v kT.cells.1;simp[Act.eval,Act.put];exact this) ?_;refine hK _ _ ?_;refine awK (rs:=[4]) al aq ?_;refine awy rfl (fun K hK=>?_) awF;refine iM rfl 197 (tmp 4) (tmp 23) rfl (w.heap.size+1) (cA ⟨h,v,ay,ay⟩) ar ar 197 Z (Hr.ae HG2 HR2) (by rw[HZ.out];exact iC) (by rw[HZ.out,hz]) (zR _ kT.cells.2 rfl rfl) ?_;refine hK _ _ ?_;refine awK (rs:=[5]) al aq ?_;refine awy rfl (fun K hK=>?_) awF;go_simp;refine hK _ _ ?_;refine wpAny_done al ?_ _;go_wp2_with fail;refine awt (v:=tuple #[agg (cA ⟨h,v,ay,ay⟩),.bool true]) (Hr.aL results143 _ _ _ _ _ (0,0) _ _ (by simp[Act.put]) (by simp[Act.put]) (awJ _ _ _ _ _ (0,0) (Hr.ae HG2 HR2)) underlying197 rfl (by rw[HZ.out];exact iC)) rfl ⟨v,rfl,?_,?_⟩
  ·refine kT.to fun k q f hk=>awI _ _ _ _ ?_
   exact aa hk (Hr.ae HG2 HR2) an
  ·exact ag (HG.trans HG2) (asA _) _
 ·go_simp;refine(HC _ (by repeat (first|exact HG|refine Gr.drew ?_))).mono ?_;rintro e w2 ⟨v,rfl,O2,G2⟩;simp only[];refine hK _ _ ?_;have kT:=kH O2;have HG2:=kH ((Gr.refl w1).drew.trans G2);refine awK (rs:=[0]) al aq ?_;refine awy rfl (fun K hK=>?_) awF;refine yu rfl 43 (tmp 2) rfl w.heap.size ar (hL h) _ (De (Hr.ae HG2 HB)) underlying43 rfl (by rw[HL.out];exact Hr.iH) ?_;refine hK _ _ ?_;refine awK (rs:=[3]) al aq ?_;refine awy rfl (fun K hK=>?_) awF;refine vQ rfl 197 _ rfl (cA ⟨h,v,ay,ay⟩) (by have:=PZ v kT.cells.1;simp[Act.eval,Act.put];exact this) ?_;refine hK _ _ ?_;refine awK (rs:=[4]) al aq ?_;refine awy rfl (fun K hK=>?_) awF;refine iM rfl 197 (tmp 4) (tmp 23) rfl (w.heap.size+1) (cA ⟨h,v,ay,ay⟩) ar ar 197 Z (Hr.ae HG2 HR2) (by rw[HZ.out];exact iC) (by rw[HZ.out,hz]) (zR _ kT.cells.2 rfl rfl) ?_;refine hK _ _ ?_;refine awK (rs:=[5]) al aq ?_;refine awy rfl (fun K hK=>?_) awF;go_simp;refine hK _ _ ?_;refine wpAny_done al ?_ _;go_wp2_with fail;refine awt (v:=tuple #[agg (cA ⟨h,v,ay,ay⟩),.bool true]) (Hr.aL results143 _ _ _ _ _ (0,0) _ _ (by simp[Act.put]) (by simp[Act.put]) (awJ _ _ _ _ _ (0,0) (Hr.ae HG2 HR2)) underlying197 rfl (by rw[HZ.out];exact iC)) rfl ⟨v,rfl,?_,?_⟩
  ·refine kT.to fun k q f hk=>awI _ _ _ _ ?_
   exact aa hk (Hr.ae HG2 HR2) an
  ·exact ag (HG.trans HG2) (asA _) _
end Hc
namespace Mc
variable[Inhabited Hc.bH]
open Mm Hh Hc
variable{hs:List Hv}{w:World}{n:Nat}
theorem vR (mc hc pc)(mn)(ni:m.length=mn)(H:Hs w ha hn hs)(P:Ps w pa pn ps)(b1:mn<=140737488351232)(b2:hn<=140737488351232)(b3:pn<=140737488351232):Calls prog 55 #[agg #[slice ma mn mc,slice ha hn hc],slice pa pn pc] w fun e w'=>e=returned (int i64 (wrong m hs ps))/\Gr w w':=by
 have HM:Hid (∀W:World,Gr w W->Calls prog 34 #[agg #[slice ma mn mc,slice ha hn hc]] W fun e w'=>e=returned (.bool (kR mn hs))/\Gr W w'):=fun W G=>ng mc hc mn (H.of G) b1 b2
 have HWr:Hid (wrong m hs ps=if kR mn hs=false then 2 else if 300<ps.length then 1 else if ps.all (jS hs.length)=false then 3 else 0):=by have:=Ll m hs ps;rw[ni]at this;exact this
 have HL:=kH H.len;have PL:=kH P.len;have HP:=kH P;generalize kR mn hs=B at *
 cases B with
 |false=>
  have HE:Hid (wrong m hs ps=2):=by unfold Hid;rw[HWr.out,awn rfl]
  go_enter func55,ntmps55;go_wp2_with fail;refine(HM _ br).mono ?_;rintro e w1 ⟨rfl,G1⟩;have aU:=kH (br.trans G1);go_wp2_with fail;go_ret;exact⟨av HE.symm,aU⟩
 |true=>
  have HW2:Hid (wrong m hs ps=if 300<pn then 1 else if ps.all (jS hn)=false then 3 else 0):=by unfold Hid;rw[HWr.out,awm aq,PL.out,HL.out]
  go_enter func55,ntmps55;go_wp2_with fail;refine(HM _ br).mono ?_;rintro e w1 ⟨rfl,G1⟩;have aU:=kH (br.trans G1);have HB:=kH ((G1.block _ aq).trans (awk w _));have hlt1:=(arz.1 HB).1;by_cases c3:300<pn
  ·have HE:Hid (wrong m hs ps=1):=by unfold Hid;rw[HW2.out,awn c3]
   go_wp2_with fail;go_ret;exact⟨av HE.symm,aU⟩
  ·have HW3:Hid (wrong m hs ps=if ps.all (jS hn)=false then 3 else 0):=by unfold Hid;rw[HW2.out,awm c3]
   by_cases p0:pn=0
   ·subst p0;have HE:Hid (wrong m hs ps=0):=by
     have:ps=[]:=asa PL;unfold Hid;rw[HW3.out,this];rfl
    go_wp2_with fail;go_loopw [15] (fun i wq=>i=int i64 0/\wq=w1) (fun _ _=>0)
    case atStart=>exact⟨rfl,rfl⟩
    case round=>
     obtain⟨rfl,rfl⟩:=hrel;go_wp2;go_ret;exact⟨av HE.symm,aU⟩
   ·obtain⟨b',o',rfl,hb',hcell'⟩:=HP.spot ab;have HC:Hid (∀i p,ps[i]?=some p->w1.cell? ⟨b',o'+i*2,none⟩=some (int i64 p.1)/\w1.cell? ⟨b',o'+i*2+1,none⟩=some (int i64 p.2)):=fun i p hp=>⟨(aU.cell _ (by exact hb')).trans (hcell' i p hp).1,(aU.cell _ (by exact hb')).trans (hcell' i p hp).2⟩
    have hb1:=arD hb' aU.size;go_wp2_with fail;go_loopw [15] (fun i wq=>∃j:Nat,j<=pn/\i=int i64 j/\(ps.take j).all (jS hn)=true/\Gr w1 wq) (fun i _=>pn-(intOf i).toNat)
    case atStart=>exact⟨0,arQ _,rfl,rfl,Gr.refl _⟩
    case round=>
     obtain⟨j,hj,rfl,hall,G⟩:=hrel;have HA:=kH hall;have HG:=kH G;have hbr:=arD hb1 G.size;have hwr:=arD hlt1 G.size;have k1:wr.cell? ⟨w.heap.size,1,none⟩=some (slice ha hn hc):=(G.cell _ (by exact hlt1)).trans (awl _ _ _ _ _ _ HB);by_cases hlt2:j<pn
     ·obtain⟨p,hp⟩:∃p,ps[j]?=some p:=⟨_,arq (by rw[PL.out];exact hlt2)⟩;have q0:=(HG.cell _ (by exact hb1)).trans (HC j p hp).1;have q1:=(HG.cell _ (by exact hb1)).trans (HC j p hp).2;have HE:Hid (¬(0<=p.1/\p.1<hn/\0<=p.2/\p.2<=400)->wrong m hs ps=3):=fun hno=>by rw[HW3.out,awn (all_false hp (by unfold jS;exact awq hno))]
      have HN:Hid ((0<=p.1/\p.1<hn/\0<=p.2/\p.2<=400)->(ps.take (j+1)).all (jS hn)=true):=fun hy=>by
       rw[qX _ ps j p hp,HA.out,show jS hn p=true by unfold jS;exact awC hy];rfl
      obtain⟨x,y⟩:=p;simp only at *
      have hc:x<0\/(¬x<0/\(hn:Int)<=x)\/(¬x<0/\¬(hn:Int)<=x/\y<0)\/(¬x<0/\¬(hn:Int)<=x/\¬y<0/\400<y)\/(¬x<0/\¬(hn:Int)<=x/\¬y<0/\¬400<y):=ab;rcases hc with h1|⟨h1,h2⟩|⟨h1,h2,h3⟩|⟨h1,h2,h3,h4⟩|⟨h1,h2,h3,h4⟩
      ·go_wp2;go_ret;exact⟨av (HE ab).symm,aU.trans (HG.alloc _)⟩
      ·go_wp2;go_ret;exact⟨av (HE ab).symm,aU.trans (HG.alloc _)⟩
      ·go_wp2;go_ret;exact⟨av (HE ab).symm,aU.trans (HG.alloc _)⟩
      ·go_wp2;go_ret;exact⟨av (HE ab).symm,aU.trans (HG.alloc _)⟩
      ·go_wp2;go_roundw
       case rel=>exact⟨j+1,ab,by go_num,HN ab,HG.alloc _⟩
       case measure=>simp[intOf];omega
     ·have HE:Hid (wrong m hs ps=0):=by
       have e:=HA;rw[show j=pn by omega,<-PL.out,ash]at e;unfold Hid;rw[HW3.out,e];rfl
      go_wp2;go_ret;exact⟨av HE.symm,aU.trans HG⟩
theorem uP {base}(h:w.ownsRow base e sz v n xs)(hn:1<=n):∃g cap,v=slice (some ⟨g,0,none⟩) n cap/\base<=g:=by
 obtain⟨_,h⟩:=h;rcases h with⟨_,h0⟩|⟨g,cap,cur,hv,hb,_⟩
 ·omega
 ·exact⟨g,cap,hv,hb⟩
theorem afk:(prog.info? 43).map (fun i=>(i.zero,i.size,i.bytes))=some (some (agg (hA h0)),37,160):=al
def Zh (w:World) (g n:Nat):Prop:=∃cur,w.heap[g]?=some (.cells cur 43 (0,0))/\cur.size=n*37/\n<=maxLen
theorem P5 {base}(h:w.ownsRow base 43 37 (slice (some ⟨g,0,none⟩) n c) n xs):Zh w g c:=by
 rcases h.2 with⟨h0,_⟩|⟨g',cap',cur,hv,hb,hg,hn,hm,hs',htake⟩
 ·cases h0
 ·simp only[axB,awz,Addr.mk.injEq,aw7,and_true]at hv;obtain⟨rfl,rfl⟩:=hv;exact⟨cur,hg,hs',hm⟩
theorem Zh.to {w'}(h:Zh w g n)(q:∀(k:Nat) (o) (f),w.heap[k]?=some (.cells o 43 f)->w'.heap[k]?=w.heap[k]?):Zh w' g n:=by obtain⟨cur,e,z⟩:=h;exact⟨cur,(q _ _ _ e).trans e,z⟩
theorem Zh.of (h:Zh w g n)(G:Gr w w'):Zh w' g n:=h.to fun k o f e=>G.block _ (gs e).1
theorem Zh.setCell {w}{g n}(h:Zh w g n)(i)(v):Zh (w.setCell ⟨g,i,none⟩ v) g n:=by obtain⟨cur,e,z⟩:=h;exact⟨_,hss e,by rw[asj];exact z.1,z.2⟩
theorem Zh.setCells {w:World}{g n:Nat}(h:Zh w g n):∀(vs:List Value) (o:Nat),Zh (w.setCells g o vs) g n
 | [],o=>h
 |v::r,o=>by rw[World.setCells];exact Zh.setCells (h.setCell o v) r (o+1)
theorem vS (cap)(H:Hs w (some ad) n hs)(hn1:1<=n)(hn:n<=4):Calls prog 37 #[slice (some ad) n cap] w fun e w'=>∃g c,e=returned (slice (some ⟨g,0,none⟩) n c)/\w.heap.size<=g/\(bY w' g hs/\Zh w' g c)/\Gr w w':=by
 obtain⟨i0,hi,hz0,hz1,hz2⟩:=awS afk;have HH:=kH H;have HL:=kH H.len;have HO:=kH H.ok;have he:∀w:World,(binOp .eql 26 (slice (some ad) n cap) (slice none 0 0)).run prog w=.ok (.bool false) w:=fun _=>al
 go_enter func37,ntmps37;go_wp2_with (at_builtin;refine awW _ rfl (tmp 5) (tmp 6) 26 rfl w.heap.size 43 i0 (agg (hA h0)) 37 160 underlying26 hi hz0 hz1 hz2 rfl an _ 0 [] rfl (axz w #[] 0 (arA _) an rfl) ad n cap (hC hs) rfl (by rw[p8 HO.out,HL.out]) (HH.of br).src (FP hs) bj ab aq ?_;intro v' w1 hown hgrow _;have HOw:Hid (w1.ownsRow w.heap.size 43 37 v' n (hC hs)):=(by unfold Hid;simpa using hown);have HG:Hid (Gr w w1):=br.grown hgrow (fun k e=>atr (aws e));clear hown hgrow);obtain⟨g,c,rfl,hg⟩:=uP HOw hn1;have HR:Hid (bY w1 g hs/\Zh w1 g c):=⟨bY.own HO HOw,P5 HOw⟩;go_ret;exact⟨g,c,rfl,hg,HR,HG⟩
end Mc
namespace Mc
variable[Inhabited Hc.bH]
open Mm Hh Hc
variable{hs:List Hv}
theorem bY.of (r:bY w g hs)(G:Gr w w'):bY w' g hs:=by obtain⟨rest,e⟩:=r.row;exact⟨r.ok,rest,(G.block _ (gs e).1).trans e⟩
theorem iO {base}(h:Own w base v l)(G:Gr w w'):Own w' base v l:=h.to fun k o f e=>G.block _ (gs e).1
structure Bw (ty:Nat) (rs:List Value) (w:World) (base g:Nat) (M:Value) (gh hc:Nat) (O:Value) (s:Sh):Prop where
 t1:ty≠5
 t2:ty≠37
 t3:ty≠43
 bg:base<=g
 blk:w.heap[g]?=some (.cells (M::slice (some ⟨gh,0,none⟩) s.hs.length hc::O::int i64 s.steps::rs).toArray ty (0,0))
 mem:Own w Hc.mb M s.m
 bh:base<=gh
 row:bY w gh s.hs
 out:w.ownsRow base 37 1 O s.out.length (s.out.map (Value.int .u32))
 hz:Zh w gh hc/\Hc.mb<=base
def Bd (ty:Nat) (rs:List Value) (w:World) (base g:Nat) (s:Sh):Prop:=∃M gh hc O,Bw ty rs w base g M gh hc O s
theorem Bw.of {w w'}{base g}{M}{gh hc}{O}{s}(B:Bw ty rs w base g M gh hc O s)(G:Gr w w'):Bw ty rs w' base g M gh hc O s:=⟨B.t1,B.t2,B.t3,B.bg,(G.block _ (gs B.blk).1).trans B.blk,iO B.mem G,B.bh,B.row.of G,aj B.out fun k o f e=>G.block _ (gs e).1,⟨B.hz.1.of G,B.hz.2⟩⟩
section
variable{base:Nat}{s:Sh}
theorem Bw.lt (B:Bw ty rs w base g M gh hc O s):g<w.heap.size:=(gs B.blk).1
theorem Bw.c0 (B:Bw ty rs w base g M gh hc O s):w.cell? ⟨g,0,none⟩=some M:=(cr B.blk).trans aq
theorem Bw.c1 (B:Bw ty rs w base g M gh hc O s):w.cell? ⟨g,1,none⟩=some (slice (some ⟨gh,0,none⟩) s.hs.length hc):=(cr B.blk).trans aq
theorem Bw.c2 (B:Bw ty rs w base g M gh hc O s):w.cell? ⟨g,2,none⟩=some O:=(cr B.blk).trans aq
theorem Bw.c3 (B:Bw ty rs w base g M gh hc O s):w.cell? ⟨g,3,none⟩=some (int i64 s.steps):=(cr B.blk).trans aq
theorem Bw.rest (B:Bw ty rs w base g M gh hc O s)(i):w.cell? ⟨g,4+i,none⟩=rs[i]?:=(cr B.blk).trans (by rw[arB,Nat.add_comm];rfl)
end
theorem FR (a b c)(n1 n2 n3 c1 c2 c3)(x):(#[slice a n1 c1,slice b n2 c2,slice c n3 c3,int i64 x]:Array Value).all (·.oneCell')=true:=by refine aw0 ?_;intro v hv;simp only[arG,arN,awQ]at hv;rcases hv with rfl|rfl|rfl|rfl<;>rfl
theorem iB:(prog.info? 84).map (·.size)=some 4:=al
theorem uf (mc hc pc)(mn)(ni:m.length=mn)(H:Hs w ha hn hs)(P:Ps w pa pn ps)(b1:mn<=140737488351232)(b2:hn<=140737488351232)(b3:pn<=140737488351232)(hno:¬wrong m hs ps=0):Calls prog 22 #[agg #[slice ma mn mc,slice ha hn hc],slice pa pn pc] w fun e w'=>e=returned (tuple #[agg #[slice none 0 0,slice none 0 0,slice none 0 0,int i64 0],int i64 (wrong m hs ps)])/\Gr w w':=by
 have HM:Hid (∀W:World,Gr w W->Calls prog 55 #[agg #[slice ma mn mc,slice ha hn hc],slice pa pn pc] W fun e w'=>e=returned (int i64 (wrong m hs ps))/\Gr W w'):=fun W G=>vR mc hc pc mn ni (H.of G) (P.of G) b1 b2 b3
 generalize wrong m hs ps=E at *
 have hE:(E !=0)=true:=by simpa using hno
 go_enter func22,ntmps22;go_wp2_with fail;refine(HM _ (br.alloc _)).mono ?_;rintro e w1 ⟨rfl,G1⟩;have aU:=kH ((br.alloc _).trans G1);have HB:=kH ((fQ G1).2);have HI:=kH iB;go_wp2_with (refine awx rfl 84 _ _ rfl (w.heap.size+1) #[slice none 0 0,slice none 0 0,slice none 0 0,int i64 0] rfl rfl 84 _ ?hb HI rfl al ?_;(case hb=>exact HB));refine awt (v:=tuple #[agg _,int i64 E]) (Hr.aL results22 _ _ _ _ _ (0,0) _ _ rfl rfl (awJ _ _ _ _ _ (0,0) HB) underlying84 rfl HI) rfl ⟨rfl,?_⟩;exact ag aU (asA _) _
theorem yw (M:Mem w ma mn m)(hcap:ma=none->mc=0)(hn:mn<=4096)(hmb:Hc.mb<=w.heap.size):Calls prog 36 #[slice ma mn mc] w fun e w'=>∃a c,e=returned (slice a mn c)/\Own w' Hc.mb (slice a mn c) m/\Gr w w':=
 (sI M hcap ab).mono fun e w' ⟨v,e1,e2,e3⟩=>by
  obtain⟨a,c,rfl,_⟩:=e2.mem;have:=M.len;rw[this]at e1 e2;exact⟨a,c,e1,e2.base (w':=w') hmb,e3⟩
theorem mE (mc hc pc)(mn)(M:Mem w ma mn m)(hcap:ma=none->mc=0)(H:Hs w ha hn hs)(P:Ps w pa pn ps)(b3:pn<=140737488351232)(hy:wrong m hs ps=0)(b1:mn<=4096)(b2:1<=hn)(b4:hn<=4)(hmb:Hc.mb<=w.heap.size):Calls prog 22 #[agg #[slice ma mn mc,slice ha hn hc],slice pa pn pc] w fun e w'=>∃a c gh hc,e=returned (tuple #[agg #[slice a mn c,slice (some ⟨gh,0,none⟩) hn hc,slice none 0 0,int i64 0],int i64 0])/\Own w' Hc.mb (slice a mn c) m/\w.heap.size<=gh/\(bY w' gh hs/\Zh w' gh hc)/\Gr w w':=by
 have HM:Hid (∀W:World,Gr w W->Calls prog 55 #[agg #[slice ma mn mc,slice ha hn hc],slice pa pn pc] W fun e w'=>e=returned (int i64 0)/\Gr W w'):=fun W G=>by rw[<-hy];exact vR mc hc pc mn M.len (H.of G) (P.of G) ab ab b3
 obtain⟨b,o,rfl,_,_⟩:=H.spot ab;have C1:Hid (∀W:World,Gr w W->_):=fun W G=>yw (M.of G) hcap b1 (arF hmb G.size)
 have C2:Hid (∀W:World,Gr w W->Calls prog 37 #[slice (some ⟨b,o,none⟩) hn hc] W fun e w'=>∃g c,e=returned (slice (some ⟨g,0,none⟩) hn c)/\w.heap.size<=g/\(bY w' g hs/\Zh w' g c)/\Gr W w'):=fun W G=>(vS hc (H.of G) b2 b4).mono fun e w' ⟨g,c,e1,e2,e3⟩=>⟨g,c,e1,arF G.size e2,e3⟩
 go_enter func22,ntmps22;go_wp2_with fail;refine(HM _ (br.alloc _)).mono ?_;rintro e w1 ⟨rfl,G1⟩;have aU:=kH ((br.alloc _).trans G1);have HA:=kH ((fQ G1).1);have HB:=kH ((fQ G1).2);have k0:=fA HA;have k1:=eH HA;go_wp2_with fail;have hlt:=(gs HA).1;have hne:w1.heap.size≠w.heap.size:=ab
 go_region_held3 (fun W=>W.cell? ⟨w.heap.size,0,none⟩=some (slice ma mn mc)∧W.cell? ⟨w.heap.size,1,none⟩=some (slice (some ⟨b,o,none⟩) hn hc)) (first|go_keep|(constructor<;>assumption)) (first
  |(go_at_call 36;refine(C1 _ (by repeat (first|exact aU|refine Gr.drew ?_|refine Gr.alloc ?_ _))).mono ?_;rintro e w2 ⟨a2,c2,rfl,O2,G2⟩;have kT:Hid (Own w2 Hc.mb (slice a2 mn c2) m):=O2;have HG2:Hid (Gr w1 w2):=Gr.trans (by repeat (first|exact Gr.refl w1|refine Gr.drew ?_|refine Gr.alloc ?_ _)) G2;have mh:Hid (w2.heap[w1.heap.size]?=some (.cells #[slice none 0 0,slice none 0 0,slice none 0 0,int i64 0] 84 (0,0))):=Hr.ae ((Gr.refl (w1.alloc _)).drew.trans G2) (awk w1 _);have q0:w2.cell? ⟨w.heap.size,0,none⟩=some (slice ma mn mc):=cr (Hr.ae HG2 HA);have q1:w2.cell? ⟨w.heap.size,1,none⟩=some (slice (some ⟨b,o,none⟩) hn hc):=cr (Hr.ae HG2 HA);clear G2 O2 k0 k1 C1)
  |(go_at_call 37;refine(C2 _ (by repeat (first|exact aU.trans HG2|refine Gr.drew ?_|refine Gr.alloc ?_ _))).mono ?_;rintro e w3 ⟨g3,c3,rfl,hg3,R3,G3⟩;have HR3:Hid (bY w3 g3 hs):=R3.1;have HZ3:Hid (Zh w3 g3 c3):=R3.2;have zS:Hid (Own w3 Hc.mb (slice a2 mn c2) m):=iO kT G3;have eO:Hid (Gr w1 w3):=HG2.trans G3;have yx:Hid (w3.heap[w1.heap.size]?=some (.cells #[slice none 0 0,slice none 0 0,slice none 0 0,int i64 0] 84 (0,0))):=Hr.ae G3 mh;have q3:w3.cell? ⟨w.heap.size,0,none⟩=some (slice ma mn mc):=cr (Hr.ae eO HA);have q4:w3.cell? ⟨w.heap.size,1,none⟩=some (slice (some ⟨b,o,none⟩) hn hc):=cr (Hr.ae eO HA);have z0:w3.cell? ⟨w1.heap.size,0,none⟩=some (slice none 0 0):=cr yx;have z1:w3.cell? ⟨w1.heap.size,1,none⟩=some (slice none 0 0):=cr yx;have z2:w3.cell? ⟨w1.heap.size,2,none⟩=some (slice none 0 0):=cr yx;have z3:w3.cell? ⟨w1.heap.size,3,none⟩=some (int i64 0):=cr yx;have f0:w3.frozen? ⟨w1.heap.size,0,none⟩=false:=iA yx;have f1:w3.frozen? ⟨w1.heap.size,1,none⟩=false:=iA yx;clear G3 R3 C2 q0 q1 kT HG2 mh))
 have hlt2:=(gs HB).1;have HB3:=kH (Hr.ae eO HB);have hne2:w1.heap.size≠w.heap.size+1:=ab;have HI:=kH iB;go_wp2_with (refine awx rfl 84 _ _ rfl (w.heap.size+1) #[slice a2 mn c2,slice (some ⟨g3,0,none⟩) hn c3,slice none 0 0,int i64 0] rfl rfl 84 #[slice none 0 0,slice none 0 0,slice none 0 0,int i64 0] ?hb HI rfl (FR _ _ _ _ _ _ _ _ _ _) ?_;(case hb=>(rw[hso (by exact hne2.symm),hso (by exact hne2.symm)];exact HB3)));refine awt (v:=tuple #[agg _,int i64 0]) (Hr.aL results22 _ _ _ _ _ (0,0) _ _ rfl rfl (J6 (by rw[hso (by exact hne2.symm),hso (by exact hne2.symm)];exact HB3)) underlying84 rfl HI) rfl ?_;have ne:∀(t:Nat) (k:Nat) (q:Array Value) (f:Nat×Nat),t≠84->w3.heap[k]?=some (.cells q t f)->(((w3.setCell ⟨w1.heap.size,0,none⟩ (slice a2 mn c2)).setCell ⟨w1.heap.size,1,none⟩ (slice (some ⟨g3,0,none⟩) hn c3)).setRow (w.heap.size+1) #[slice a2 mn c2,slice (some ⟨g3,0,none⟩) hn c3,slice none 0 0,int i64 0]).heap[k]?=w3.heap[k]?:=fun t k q f ht hk=>by
  have n1:=aa hk yx ht;have n2:=aa hk HB3 ht;rw[uI n2,hso (by exact n1),hso (by exact n1)]
 refine⟨a2,c2,g3,c3,rfl,zS.to fun k q f hk=>ne _ k q f an hk,hg3,?_,?_⟩
 ·obtain⟨rest,hr⟩:=HR3.row;exact⟨⟨HR3.ok,rest,(ne _ _ _ _ an hr).trans hr⟩,HZ3.to fun k q f hk=>ne _ k q f an hk⟩
 ·exact ag (((aU.trans eO).setCell (as6 hlt) _).setCell (as6 hlt) _) (asA _) _
end Mc
namespace Hc
variable[Inhabited Hc.bH]
open Mm Hh
variable{h:Hv}
abbrev Ptr (g:Nat):Value:=pointer (some ⟨g,0,none⟩)
def bW (r:Option Int):Value:=tuple #[int .u32 (r.getD 0),.bool r.isSome]
theorem nk {base}(I:In w base g h l os ss)(hl:l.length<=140737488351232)(a)(h0:0<=a)(h1:a<4294967296):Calls prog 197 #[pointer (some ⟨g,0,none⟩),int .u32 a] w fun e w'=>e=returned (bW (ik h l a).res)/\In w' base g (ik h l a).h l os ss/\Fr base w w':=by
 have L:=eQ I hl 13 a h0 h1;unfold ik;have HI:=kH I;clear I;cases hB:bR l 13 a with
 |false=>
  have hX:aT l 13 a=0:=by unfold aT;rw[hB];rfl
  rw[hB,hX]at L;have HL:=kH L;clear L hX hB;go_enter func197,ntmps197;go_wp2_with fail;refine HL.mono ?_;rintro e w' ⟨rfl,I2,C2⟩;have HI2:=kH I2;have mh:=kH C2;clear I2 C2 HL;go_wp2_with fail;go_ret2;exact⟨rfl,HI2,HI.below mh⟩
 |true=>
  rw[hB]at L;have HL:Hid (Calls prog 177 #[pointer (some ⟨g,0,none⟩),int i64 13,int .u32 a] w fun e w'=>e=returned (tuple #[int .u32 (aT l 13 a),.bool true])/\In w' base g h l os ss/\Ch g w w'):=L;clear L hB;generalize aT l 13 a=X at *
  go_enter func197,ntmps197;go_wp2_with fail;refine HL.mono ?_;rintro e w' ⟨rfl,I2,C2⟩;have mh:Hid (Ch g w w'):=C2;obtain⟨c0,rfl,I⟩:=I2;have k1:=(I.hcell ab).trans (bu I.ok 1);have k2:=(I.hcell ab).trans (bu I.ok 2);have fz:=I.fz;have o1:Hv.Ok { c0.h with held:=true }:=⟨I.ok.len,I.ok.reg,I.ok.oW,I.ok.gP,I.ok.zy,I.ok.BO⟩;have HJ:Hid (Inv ((w'.setCell ⟨g,33,none⟩ (.bool true)).setCell ⟨g,34,none⟩ (int .u32 a)) base g { c0 with h:=c0.h.hold true a } l os ss):=
   (I.set ab (lh I.ok true) o1).set (c:={ c0 with h:={ c0.h with held:=true } }) ab (iF o1 a) (I.ok.hold true h0 h1)
  generalize c0.h.held=x1 at *
  generalize c0.h.aW=x2 at *
  go_wp2_with fail;go_ret2;exact⟨rfl,HJ.tY,HI.below ((mh.setCell _ _).setCell _ _)⟩
theorem kV {base}(I:In w base g h l os ss)(T:Tb w base)(hl:l.length<=140737488351232)(hss:ss.length<=1000000)(a b)(h0:0<=a)(h1:a<4294967296)(hx0:0<=b)(hx1:b<4294967296)(ok:bR l 13 a=true):Calls prog 198 #[pointer (some ⟨g,0,none⟩),int .u32 a,int .u32 b] w fun e w'=>e=returned (int .u32 ((fC h l a b).res.getD 0))/\In w' base g (fC h l a b).h (fC h l a b).m os (ss++(fC h l a b).ax)/\Fr base w w':=by
 unfold fC;rw[awn ok];have HI:Hid (In w base g h l os ss):=I;obtain⟨c0,rfl,I⟩:=I;have k1:=(I.hcell ab).trans (bu I.ok 1);have k2:=(I.hcell ab).trans (bu I.ok 2);have fz:=I.fz;have o1:Hv.Ok { c0.h with held:=false }:=⟨I.ok.len,I.ok.reg,I.ok.oW,I.ok.gP,I.ok.zy,I.ok.BO⟩;have J:Inv ((w.setCell ⟨g,33,none⟩ (.bool false)).setCell ⟨g,34,none⟩ (int .u32 0)) base g { c0 with h:=c0.h.hold false 0 } l os ss:=
  (I.set ab (lh I.ok false) o1).set (c:={ c0 with h:={ c0.h with held:=false } }) ab (iF o1 0) (I.ok.hold false (x:=0) ab ab)
 have B:Fr base w ((w.setCell ⟨g,33,none⟩ (.bool false)).setCell ⟨g,34,none⟩ (int .u32 0)):=HI.below (((Ch.refl g w).setCell _ _).setCell _ _);have S:=dW J.tY (T.of B) hl hss 18 a b h0 h1 hx0 hx1;have e1:aI (c0.h.hold false 0) l 18 a b=⟨c0.h.hold false 0,jb l 18 a b,[],[(a,4)],none⟩:=by unfold aI;rw[awn (bK ok)];rfl
 have HS:Hid (Calls prog 178 #[pointer (some ⟨g,0,none⟩),int i64 18,int .u32 a,int .u32 b] ((w.setCell ⟨g,33,none⟩ (.bool false)).setCell ⟨g,34,none⟩ (int .u32 0)) fun e w'=>e=returned (tuple #[])/\In w' base g (c0.h.hold false 0) (jb l 18 a b) os (ss++[(a,4)])/\Fr base ((w.setCell ⟨g,33,none⟩ (.bool false)).setCell ⟨g,34,none⟩ (int .u32 0)) w'):=by
  have S1:=S;rw[e1]at S1;exact S1
 have HJ:=kH J.tY;have HB:=kH B;generalize c0.h.held=x1 at *
 generalize c0.h.aW=x2 at *
 cases x1 with
 |false=>
  rw[awm aq];go_enter func198,ntmps198;go_wp2_with fail;go_ret;exact⟨rfl,by simpa using HJ.out,HB.out⟩
 |true=>
  by_cases ha:x2=a
  ·rw[awn ⟨rfl,ha⟩];have ba:(x2 ==a)=true:=by simp[ha]
   go_enter func198,ntmps198;go_wp2_with fail;refine HS.mono ?_;rintro e w' ⟨rfl,I2,B2⟩;have HI2:=kH I2;have HB2:Hid _:=HB.trans B2;go_wp2_with fail;go_ret;exact⟨rfl,HI2,HB2⟩
  ·rw[awm (by simp[ha])];have ba:(x2 ==a)=false:=by simp[ha]
   go_enter func198,ntmps198;go_wp2_with fail;go_ret;exact⟨rfl,by simpa using HJ.out,HB.out⟩
theorem vT {base}(I:In w base g h l os ss)(T:Tb w base)(hl:l.length<=140737488351232)(hss:ss.length<=1000000)(op a b)(h0:0<=a)(h1:a<4294967296)(hx0:0<=b)(hx1:b<4294967296):Calls prog 180 #[pointer (some ⟨g,0,none⟩),int i64 op,int .u32 a,int .u32 b] w fun e w'=>e=returned (bW (aN h l op a b).res)/\In w' base g (aN h l op a b).h (aN h l op a b).m os (ss++(aN h l op a b).ax)/\Fr base w w':=by
 have R:=kH (nk I hl a h0 h1);have Tr:Hid (∀c,_):=fun c=>dR I c
 have SH:Hid (bR l 13 a=true->_):=fun ok=>kV I T hl hss a b h0 h1 hx0 hx1 ok
 have wv:=W.aT l 13 a;have wa:=W.nX (op:=op) wv ⟨hx0,hx1⟩;have St:Hid _:=dW I T hl hss 18 a _ h0 h1 wa.1 wa.2;have HI:=kH I;obtain⟨c0,rfl,I⟩:=I;obtain⟨ao,cap,hm,M⟩:=I.mem.mem;have k1:w.cell? ⟨g,37,none⟩=some (slice ao l.length cap):=(I.dQ 0).trans (by rw[hm];rfl);have L:Hid _:=Mm.eQ cap 13 a M hl h0 h1;have Am:=kH (Ww.Iu op _ b w wv.1 wv.2 hx0 hx1);by_cases h46:op=46
 ·have e:aN c0.h l op a b=ik c0.h l a:=awn h46;have em:(ik c0.h l a).m=l/\(ik c0.h l a).ax=[]:=by unfold ik;split<;>exact⟨rfl,rfl⟩
  rw[e,em.1,em.2,arP];have b46:(op ==46)=true:=by simp[h46]
  generalize ik c0.h l a=E at *
  unfold bW at *
  go_enter func180,ntmps180;go_wp2_with fail;refine R.mono ?_;rintro e w' ⟨rfl,I2,B2⟩;have HI2:=kH I2;have HB2:=kH B2;go_wp2_with fail;go_ret2;exact⟨rfl,HI2,HB2⟩
 have b46:(op ==46)=false:=by simp[h46]
 cases ok:bR l 13 a with
 |false=>
  have e:aN c0.h l op a b=⟨c0.h.trap 4,l,[],[],none⟩:=by
   unfold aN fC jv;rw[awm h46,ok];simp
  rw[e,arP];rw[ok]at L;have L2:Hid (Calls prog 64 #[slice ao l.length cap,int i64 13,int .u32 a] w fun e w'=>e=returned (tuple #[int .u32 (aT l 13 a),.bool false])/\w'=w):=L;generalize aT l 13 a=X at *
  generalize l.length=n at *
  go_enter func180,ntmps180;go_wp2_with fail;refine L2.mono ?_;rintro e w' ⟨rfl,rfl⟩;go_wp2_with fail;refine(Tr 4).mono ?_;rintro e w2 ⟨rfl,I2,C2⟩;have HI2:=kH I2;have mh:=kH C2;go_wp2_with fail;go_ret2;exact⟨rfl,HI2,HI.below mh⟩
 |true=>
  rw[ok]at L;have L2:Hid (Calls prog 64 #[slice ao l.length cap,int i64 13,int .u32 a] w fun e w'=>e=returned (tuple #[int .u32 (aT l 13 a),.bool true])/\w'=w):=L;by_cases h47:op=47
  ·have e:aN c0.h l op a b=fC c0.h l a b:=by unfold aN;rw[awm h46,awn h47]
   have er:bW (fC c0.h l a b).res=tuple #[int .u32 ((fC c0.h l a b).res.getD 0),.bool true]:=by
    unfold bW fC;rw[awn ok];split<;>rfl
   rw[e,er];have S2:=kH (SH ok);have b47:(op ==47)=true:=by simp[h47]
   generalize fC c0.h l a b=E at *
   generalize E.res.getD 0=Y at *
   generalize aT l 13 a=X at *
   generalize l.length=n at *
   go_enter func180,ntmps180;go_wp2_with fail;refine L2.mono ?_;rintro e w' ⟨rfl,rfl⟩;go_wp2_with fail;refine S2.mono ?_;rintro e w2 ⟨rfl,I2,B2⟩;have HI2:=kH I2;have HB2:=kH B2;go_wp2_with fail;go_ret2;exact⟨rfl,HI2,HB2⟩
  ·have e:aN c0.h l op a b=⟨c0.h,jb l 18 a (Wd.nX op (aT l 13 a) b),[],[(a,4)],some (aT l 13 a)⟩:=by unfold aN jv;rw[awm h46,awm h47,awn ok]
   have e2:aI c0.h l 18 a (Wd.nX op (aT l 13 a) b)=⟨c0.h,jb l 18 a (Wd.nX op (aT l 13 a) b),[],[(a,4)],none⟩:=by unfold aI;rw[awn (bK ok)];rfl
   rw[e];rw[e2]at St;have St2:Hid (Calls prog 178 #[pointer (some ⟨g,0,none⟩),int i64 18,int .u32 a,int .u32 (Wd.nX op (aT l 13 a) b)] w fun e w'=>e=returned (tuple #[])/\In w' base g c0.h (jb l 18 a (Wd.nX op (aT l 13 a) b)) os (ss++[(a,4)])/\Fr base w w'):=St;have b47:(op ==47)=false:=by simp[h47]
   unfold bW;generalize jb l 18 a (Wd.nX op (aT l 13 a) b)=K at *
   generalize Wd.nX op (aT l 13 a) b=Y at *
   generalize aT l 13 a=X at *
   generalize l.length=n at *
   go_enter func180,ntmps180;go_wp2_with fail;refine L2.mono ?_;rintro e w' ⟨rfl,rfl⟩;go_wp2_with fail;refine Am.mono ?_;rintro e w' ⟨rfl,rfl⟩;clear Am;go_wp2_with fail;refine St2.mono ?_;rintro e w2 ⟨rfl,I2,B2⟩;have HI2:=kH I2;have HB2:=kH B2;go_wp2_with fail;go_ret2;exact⟨rfl,HI2,HB2⟩
end Hc
namespace Hc
variable[Inhabited Hc.bH]
open Mm Hh
variable{base:Nat}{h:Hv}
theorem aG (n a b)(w)(h:a<=n/\n<=b):Calls prog 97 #[int i64 n,int i64 a,int i64 b] w fun e w'=>e=returned (.bool true)/\w=w':=by have:=aH n a b w;rw[show(decide (a<=n) && decide (n<=b))=true by simp;omega]at this;exact this.mono fun e w' h=>⟨h.1,h.2.symm⟩
theorem ai (n a b)(w)(h:¬(a<=n/\n<=b)):Calls prog 97 #[int i64 n,int i64 a,int i64 b] w fun e w'=>e=returned (.bool false)/\w=w':=by have:=aH n a b w;rw[show(decide (a<=n) && decide (n<=b))=false by simp;omega]at this;exact this.mono fun e w' h=>⟨h.1,h.2.symm⟩
theorem Lr (T:Tb w base)(op)(h0:19<=op)(h1:op<=27):w.cell? ⟨10,op.toNat,none⟩=some (int i64 (opn op)):=by
 have h:op=19\/op=20\/op=21\/op=22\/op=23\/op=24\/op=25\/op=26\/op=27:=ab;rcases h with rfl|rfl|rfl|rfl|rfl|rfl|rfl|rfl|rfl
 ·exact T.opers 19 _ rfl
 ·exact T.opers 20 _ rfl
 ·exact T.opers 21 _ rfl
 ·exact T.opers 22 _ rfl
 ·exact T.opers 23 _ rfl
 ·exact T.opers 24 _ rfl
 ·exact T.opers 25 _ rfl
 ·exact T.opers 26 _ rfl
 ·exact T.opers 27 _ rfl
theorem afm (I:In w base g h l os ss)(T:Tb w base)(hl:l.length<=140737488351232)(hss:ss.length<=1000000)(hos:os.length<=1000000)(op a b n)(ha:W a)(hb:W b)(hn:W n)(ho:op=1):Calls prog 161 #[pointer (some ⟨g,0,none⟩),int i64 op,int .u32 a,int .u32 b,int .u32 n] w fun e w'=>e=returned (bW (⟨h,l,[],[],some n⟩:Ev).res)/\In w' base g (⟨h,l,[],[],some n⟩:Ev).h (⟨h,l,[],[],some n⟩:Ev).m (os++(⟨h,l,[],[],some n⟩:Ev).out) (ss++(⟨h,l,[],[],some n⟩:Ev).ax)/\Fr base w w':=by
 have HI:Hid (In w base g h l (os++[]) (ss++[])):=by unfold Hid;simpa using I
 subst ho;go_enter func161,ntmps161;go_wp2_with (go_at_call 97;first|(refine(aG _ _ _ _ ab).mono ?_;rintro e w' ⟨rfl,rfl⟩)|(refine(ai _ _ _ _ ab).mono ?_;rintro e w' ⟨rfl,rfl⟩));unfold bW;go_ret2;exact⟨rfl,HI,Fr.refl _ _⟩
theorem afn (I:In w base g h l os ss)(T:Tb w base)(hl:l.length<=140737488351232)(hss:ss.length<=1000000)(hos:os.length<=1000000)(op a b n)(ha:W a)(hb:W b)(hn:W n)(ho:op=2):Calls prog 161 #[pointer (some ⟨g,0,none⟩),int i64 op,int .u32 a,int .u32 b,int .u32 n] w fun e w'=>e=returned (bW (⟨h,l,[],[],some (Wd.lo (h.pc+n))⟩:Ev).res)/\In w' base g (⟨h,l,[],[],some (Wd.lo (h.pc+n))⟩:Ev).h (⟨h,l,[],[],some (Wd.lo (h.pc+n))⟩:Ev).m (os++(⟨h,l,[],[],some (Wd.lo (h.pc+n))⟩:Ev).out) (ss++(⟨h,l,[],[],some (Wd.lo (h.pc+n))⟩:Ev).ax)/\Fr base w w':=by
 have HI:Hid (In w base g h l (os++[]) (ss++[])):=by unfold Hid;simpa using I
 have HI0:=kH I;obtain⟨c0,rfl,J⟩:=HI0;have P6:=(J.hcell ab).trans (bu J.ok 0);have p0:=J.ok.oW;have p1:=J.ok.gP;subst ho;go_enter func161,ntmps161;go_wp2_with (go_at_call 97;first|(refine(aG _ _ _ _ ab).mono ?_;rintro e w' ⟨rfl,rfl⟩)|(refine(ai _ _ _ _ ab).mono ?_;rintro e w' ⟨rfl,rfl⟩));unfold bW;go_ret2;exact⟨rfl,HI,Fr.refl _ _⟩
theorem afo (I:In w base g h l os ss)(T:Tb w base)(hl:l.length<=140737488351232)(hss:ss.length<=1000000)(hos:os.length<=1000000)(op a b n)(ha:W a)(hb:W b)(hn:W n)(ho:op=3):Calls prog 161 #[pointer (some ⟨g,0,none⟩),int i64 op,int .u32 a,int .u32 b,int .u32 n] w fun e w'=>e=returned (bW (⟨h,l,[],[],some (Wd.lo (h.pc+4))⟩:Ev).res)/\In w' base g (⟨h,l,[],[],some (Wd.lo (h.pc+4))⟩:Ev).h (⟨h,l,[],[],some (Wd.lo (h.pc+4))⟩:Ev).m (os++(⟨h,l,[],[],some (Wd.lo (h.pc+4))⟩:Ev).out) (ss++(⟨h,l,[],[],some (Wd.lo (h.pc+4))⟩:Ev).ax)/\Fr base w w':=by
 have HI:Hid (In w base g h l (os++[]) (ss++[])):=by unfold Hid;simpa using I
 have HI0:=kH I;obtain⟨c0,rfl,J⟩:=HI0;have P6:=(J.hcell ab).trans (bu J.ok 0);have p0:=J.ok.oW;have p1:=J.ok.gP;subst ho;go_enter func161,ntmps161;go_wp2_with (go_at_call 97;first|(refine(aG _ _ _ _ ab).mono ?_;rintro e w' ⟨rfl,rfl⟩)|(refine(ai _ _ _ _ ab).mono ?_;rintro e w' ⟨rfl,rfl⟩));unfold bW;go_ret2;exact⟨rfl,HI,Fr.refl _ _⟩
theorem afp (I:In w base g h l os ss)(T:Tb w base)(hl:l.length<=140737488351232)(hss:ss.length<=1000000)(hos:os.length<=1000000)(op a b n)(ha:W a)(hb:W b)(hn:W n)(ho:op=4):Calls prog 161 #[pointer (some ⟨g,0,none⟩),int i64 op,int .u32 a,int .u32 b,int .u32 n] w fun e w'=>e=returned (bW (⟨h,l,[],[],some (Wd.lo (h.pc+4))⟩:Ev).res)/\In w' base g (⟨h,l,[],[],some (Wd.lo (h.pc+4))⟩:Ev).h (⟨h,l,[],[],some (Wd.lo (h.pc+4))⟩:Ev).m (os++(⟨h,l,[],[],some (Wd.lo (h.pc+4))⟩:Ev).out) (ss++(⟨h,l,[],[],some (Wd.lo (h.pc+4))⟩:Ev).ax)/\Fr base w w':=by
 have HI:Hid (In w base g h l (os++[]) (ss++[])):=by unfold Hid;simpa using I
 have HI0:=kH I;obtain⟨c0,rfl,J⟩:=HI0;have P6:=(J.hcell ab).trans (bu J.ok 0);have p0:=J.ok.oW;have p1:=J.ok.gP;subst ho;go_enter func161,ntmps161;go_wp2_with (go_at_call 97;first|(refine(aG _ _ _ _ ab).mono ?_;rintro e w' ⟨rfl,rfl⟩)|(refine(ai _ _ _ _ ab).mono ?_;rintro e w' ⟨rfl,rfl⟩));unfold bW;go_ret2;exact⟨rfl,HI,Fr.refl _ _⟩
theorem P8 (I:In w base g h l os ss)(T:Tb w base)(hl:l.length<=140737488351232)(hss:ss.length<=1000000)(hos:os.length<=1000000)(op a b n)(ha:W a)(hb:W b)(hn:W n)(ho:op<=0\/5<=op/\op<=10\/op=57\/60<=op):Calls prog 161 #[pointer (some ⟨g,0,none⟩),int i64 op,int .u32 a,int .u32 b,int .u32 n] w fun e w'=>e=returned (bW (⟨h,l,[],[],none⟩:Ev).res)/\In w' base g (⟨h,l,[],[],none⟩:Ev).h (⟨h,l,[],[],none⟩:Ev).m (os++(⟨h,l,[],[],none⟩:Ev).out) (ss++(⟨h,l,[],[],none⟩:Ev).ax)/\Fr base w w':=by
 have HI:Hid (In w base g h l (os++[]) (ss++[])):=by unfold Hid;simpa using I
 have b1:(op ==1)=false:=by simp;omega
 have b2:(op ==2)=false:=by simp;omega
 have b3:(op ==3)=false:=by simp;omega
 have b4:(op ==4)=false:=by simp;omega
 have b58:(op ==58)=false:=by simp;omega
 have b59:(op ==59)=false:=by simp;omega
 go_enter func161,ntmps161;go_wp2_with (go_at_call 97;first|(refine(aG _ _ _ _ ab).mono ?_;rintro e w' ⟨rfl,rfl⟩)|(refine(ai _ _ _ _ ab).mono ?_;rintro e w' ⟨rfl,rfl⟩));unfold bW;go_ret2;exact⟨rfl,HI,Fr.refl _ _⟩
theorem P9 {base}(I:In w base g h l os ss)(T:Tb w base)(hl:l.length<=140737488351232)(hss:ss.length<=1000000)(hos:os.length<=1000000)(op a b n)(ha:W a)(hb:W b)(hn:W n)(ho:11<=op/\op<=15):Calls prog 161 #[pointer (some ⟨g,0,none⟩),int i64 op,int .u32 a,int .u32 b,int .u32 n] w fun e w'=>e=returned (bW (bJ h l op (Wd.lo (a+n))).res)/\In w' base g (bJ h l op (Wd.lo (a+n))).h (bJ h l op (Wd.lo (a+n))).m (os++(bJ h l op (Wd.lo (a+n))).out) (ss++(bJ h l op (Wd.lo (a+n))).ax)/\Fr base w w':=by
 have HI:=kH I;have L:=eQ I hl op (Wd.lo (a+n)) (Wd.xQ _).1 (Wd.xQ _).2;have e:(bJ h l op (Wd.lo (a+n))).res.getD 0=aT l op (Wd.lo (a+n))/\(bJ h l op (Wd.lo (a+n))).res.isSome=bR l op (Wd.lo (a+n))/\(bJ h l op (Wd.lo (a+n))).h=(if bR l op (Wd.lo (a+n))=true then h else h.trap 3)/\(bJ h l op (Wd.lo (a+n))).m=l/\(bJ h l op (Wd.lo (a+n))).out=[]/\(bJ h l op (Wd.lo (a+n))).ax=[]:=by
  unfold bJ;cases ok:bR l op (Wd.lo (a+n))with
  |false=>refine⟨?_,aq,aq,aq,aq,aq⟩;unfold aT;simp[ok]
  |true=>simp
 obtain⟨e1,e2,e3,e4,e5,e6⟩:=e;unfold bW;rw[e1,e2,e3,e4,e5,e6,arP,arP];generalize aT l op (Wd.lo (a+n))=X at *
 generalize bR l op (Wd.lo (a+n))=B at *
 generalize(if B=true then h else h.trap 3)=h' at *
 have L2:=kH L;unfold W at ha hb hn;have b1:(op ==1)=false:=by simp;omega
 have b2:(op ==2)=false:=by simp;omega
 have b3:(op ==3)=false:=by simp;omega
 have b4:(op ==4)=false:=by simp;omega
 have b58:(op ==58)=false:=by simp;omega
 have b59:(op ==59)=false:=by simp;omega
 go_enter func161,ntmps161;go_wp2_with (go_at_call 97;first|(refine(aG _ _ _ _ ab).mono ?_;rintro e w' ⟨rfl,rfl⟩)|(refine(ai _ _ _ _ ab).mono ?_;rintro e w' ⟨rfl,rfl⟩));refine L2.mono ?_;rintro e w' ⟨rfl,I2,C2⟩;have HI2:=kH I2;have mh:=kH C2;go_wp2_with fail;go_ret2;exact⟨rfl,HI2,HI.below mh⟩
theorem Lt {base}(I:In w base g h l os ss)(T:Tb w base)(hl:l.length<=140737488351232)(hss:ss.length<=1000000)(hos:os.length<=1000000)(op a b n)(ha:W a)(hb:W b)(hn:W n)(ho:16<=op/\op<=18):Calls prog 161 #[pointer (some ⟨g,0,none⟩),int i64 op,int .u32 a,int .u32 b,int .u32 n] w fun e w'=>e=returned (bW (aI h l op (Wd.lo (a+n)) b).res)/\In w' base g (aI h l op (Wd.lo (a+n)) b).h (aI h l op (Wd.lo (a+n)) b).m (os++(aI h l op (Wd.lo (a+n)) b).out) (ss++(aI h l op (Wd.lo (a+n)) b).ax)/\Fr base w w':=by
 have L:=dW I T hl hss op (Wd.lo (a+n)) b (Wd.xQ _).1 (Wd.xQ _).2 hb.1 hb.2;have e:(aI h l op (Wd.lo (a+n)) b).res=none/\(aI h l op (Wd.lo (a+n)) b).out=[]:=by unfold aI;split<;>exact⟨rfl,rfl⟩
 unfold bW;rw[e.1,e.2,arP];generalize aI h l op (Wd.lo (a+n)) b=E at *
 have L2:=kH L;unfold W at ha hb hn;have b1:(op ==1)=false:=by simp;omega
 have b2:(op ==2)=false:=by simp;omega
 have b3:(op ==3)=false:=by simp;omega
 have b4:(op ==4)=false:=by simp;omega
 have b58:(op ==58)=false:=by simp;omega
 have b59:(op ==59)=false:=by simp;omega
 go_enter func161,ntmps161;go_wp2_with (go_at_call 97;first|(refine(aG _ _ _ _ ab).mono ?_;rintro e w' ⟨rfl,rfl⟩)|(refine(ai _ _ _ _ ab).mono ?_;rintro e w' ⟨rfl,rfl⟩));refine L2.mono ?_;rintro e w' ⟨rfl,I2,B2⟩;have HI2:=kH I2;have HB2:=kH B2;go_wp2_with fail;go_ret2;exact⟨rfl,HI2,HB2⟩
theorem Qa (I:In w base g h l os ss)(T:Tb w base)(hl:l.length<=140737488351232)(hss:ss.length<=1000000)(hos:os.length<=1000000)(op a b n)(ha:W a)(hb:W b)(hn:W n)(ho:19<=op/\op<=27):Calls prog 161 #[pointer (some ⟨g,0,none⟩),int i64 op,int .u32 a,int .u32 b,int .u32 n] w fun e w'=>e=returned (bW (⟨h,l,[],[],some (Wd.fB (opn op) a n)⟩:Ev).res)/\In w' base g (⟨h,l,[],[],some (Wd.fB (opn op) a n)⟩:Ev).h (⟨h,l,[],[],some (Wd.fB (opn op) a n)⟩:Ev).m (os++(⟨h,l,[],[],some (Wd.fB (opn op) a n)⟩:Ev).out) (ss++(⟨h,l,[],[],some (Wd.fB (opn op) a n)⟩:Ev).ax)/\Fr base w w':=by
 have HI:Hid (In w base g h l (os++[]) (ss++[])):=by unfold Hid;simpa using I
 have kc:=Lr T op ho.1 ho.2;have A:Hid (Calls prog 179 #[int i64 (opn op),int .u32 a,int .u32 n] w fun e w'=>e=returned (int .u32 (Wd.fB (opn op) a n))/\w'=w):=Ww.kG _ a n w ha.1 ha.2 hn.1 hn.2;unfold W at ha hb hn;have b1:(op ==1)=false:=by simp;omega
 have b2:(op ==2)=false:=by simp;omega
 have b3:(op ==3)=false:=by simp;omega
 have b4:(op ==4)=false:=by simp;omega
 have b58:(op ==58)=false:=by simp;omega
 have b59:(op ==59)=false:=by simp;omega
 unfold bW;generalize Wd.fB (opn op) a n=X at *
 go_enter func161,ntmps161;go_wp2_with (go_at_call 97;first|(refine(aG _ _ _ _ ab).mono ?_;rintro e w' ⟨rfl,rfl⟩)|(refine(ai _ _ _ _ ab).mono ?_;rintro e w' ⟨rfl,rfl⟩));refine A.mono ?_;rintro e w9 ⟨rfl,hw9⟩;obtain rfl:=hw9.symm;go_wp2_with fail;go_ret2;exact⟨rfl,HI,Fr.refl _ _⟩
theorem zT (I:In w base g h l os ss)(T:Tb w base)(hl:l.length<=140737488351232)(hss:ss.length<=1000000)(hos:os.length<=1000000)(op a b n)(ha:W a)(hb:W b)(hn:W n)(ho:28<=op/\op<=45):Calls prog 161 #[pointer (some ⟨g,0,none⟩),int i64 op,int .u32 a,int .u32 b,int .u32 n] w fun e w'=>e=returned (bW (⟨h,l,[],[],some (Wd.fB op a b)⟩:Ev).res)/\In w' base g (⟨h,l,[],[],some (Wd.fB op a b)⟩:Ev).h (⟨h,l,[],[],some (Wd.fB op a b)⟩:Ev).m (os++(⟨h,l,[],[],some (Wd.fB op a b)⟩:Ev).out) (ss++(⟨h,l,[],[],some (Wd.fB op a b)⟩:Ev).ax)/\Fr base w w':=by
 have HI:Hid (In w base g h l (os++[]) (ss++[])):=by unfold Hid;simpa using I
 have A:Hid (Calls prog 179 #[int i64 op,int .u32 a,int .u32 b] w fun e w'=>e=returned (int .u32 (Wd.fB op a b))/\w'=w):=Ww.kG _ a b w ha.1 ha.2 hb.1 hb.2;unfold W at ha hb hn;have b1:(op ==1)=false:=by simp;omega
 have b2:(op ==2)=false:=by simp;omega
 have b3:(op ==3)=false:=by simp;omega
 have b4:(op ==4)=false:=by simp;omega
 have b58:(op ==58)=false:=by simp;omega
 have b59:(op ==59)=false:=by simp;omega
 unfold bW;generalize Wd.fB op a b=X at *
 go_enter func161,ntmps161;go_wp2_with (go_at_call 97;first|(refine(aG _ _ _ _ ab).mono ?_;rintro e w' ⟨rfl,rfl⟩)|(refine(ai _ _ _ _ ab).mono ?_;rintro e w' ⟨rfl,rfl⟩));refine A.mono ?_;rintro e w9 ⟨rfl,hw9⟩;obtain rfl:=hw9.symm;go_wp2_with fail;go_ret2;exact⟨rfl,HI,Fr.refl _ _⟩
theorem Qb {base}(I:In w base g h l os ss)(T:Tb w base)(hl:l.length<=140737488351232)(hss:ss.length<=1000000)(hos:os.length<=1000000)(op a b n)(ha:W a)(hb:W b)(hn:W n)(ho:46<=op/\op<=56):Calls prog 161 #[pointer (some ⟨g,0,none⟩),int i64 op,int .u32 a,int .u32 b,int .u32 n] w fun e w'=>e=returned (bW (aN h l op a b).res)/\In w' base g (aN h l op a b).h (aN h l op a b).m (os++(aN h l op a b).out) (ss++(aN h l op a b).ax)/\Fr base w w':=by
 have L:=vT I T hl hss op a b ha.1 ha.2 hb.1 hb.2;have e:(aN h l op a b).out=[]:=by
  unfold aN ik fC jv;repeat' split
  all_goals rfl
 rw[e,arP];unfold bW at L ⊢;generalize aN h l op a b=E at *
 have L2:=kH L;generalize E.res.getD 0=X at *
 generalize E.res.isSome=Y at *
 unfold W at ha hb hn;have b1:(op ==1)=false:=by simp;omega
 have b2:(op ==2)=false:=by simp;omega
 have b3:(op ==3)=false:=by simp;omega
 have b4:(op ==4)=false:=by simp;omega
 have b58:(op ==58)=false:=by simp;omega
 have b59:(op ==59)=false:=by simp;omega
 go_enter func161,ntmps161;go_wp2_with (go_at_call 97;first|(refine(aG _ _ _ _ ab).mono ?_;rintro e w' ⟨rfl,rfl⟩)|(refine(ai _ _ _ _ ab).mono ?_;rintro e w' ⟨rfl,rfl⟩));refine L2.mono ?_;rintro e w' ⟨rfl,I2,B2⟩;have HI2:=kH I2;have HB2:=kH B2;go_wp2_with fail;go_ret2;exact⟨rfl,HI2,HB2⟩
theorem Qc {base}(I:In w base g h l os ss)(T:Tb w base)(hl:l.length<=140737488351232)(hss:ss.length<=1000000)(hos:os.length<=1000000)(op a b n)(ha:W a)(hb:W b)(hn:W n)(ho:op=58):Calls prog 161 #[pointer (some ⟨g,0,none⟩),int i64 op,int .u32 a,int .u32 b,int .u32 n] w fun e w'=>e=returned (bW (bE h l).res)/\In w' base g (bE h l).h (bE h l).m (os++(bE h l).out) (ss++(bE h l).ax)/\Fr base w w':=by
 have L:=vz I hos;have e:(bE h l).res=none/\(bE h l).ax=[]/\(bE h l).m=l:=by
  unfold bE;repeat' split
  all_goals exact⟨rfl,rfl,rfl⟩
 unfold bW;rw[e.1,e.2.1,e.2.2,arP];generalize bE h l=E at *
 have L2:=kH L;subst ho;unfold W at ha hb hn;go_enter func161,ntmps161;go_wp2_with (go_at_call 97;first|(refine(aG _ _ _ _ ab).mono ?_;rintro e w' ⟨rfl,rfl⟩)|(refine(ai _ _ _ _ ab).mono ?_;rintro e w' ⟨rfl,rfl⟩));refine L2.mono ?_;rintro e w' ⟨rfl,I2,B2⟩;have HI2:=kH I2;have HB2:=kH B2;go_wp2_with fail;go_ret2;exact⟨rfl,HI2,HB2⟩
theorem Lu {base}(I:In w base g h l os ss)(T:Tb w base)(hl:l.length<=140737488351232)(hss:ss.length<=1000000)(hos:os.length<=1000000)(op a b n)(ha:W a)(hb:W b)(hn:W n)(ho:op=59):Calls prog 161 #[pointer (some ⟨g,0,none⟩),int i64 op,int .u32 a,int .u32 b,int .u32 n] w fun e w'=>e=returned (bW (⟨h.trap 6,l,[],[],none⟩:Ev).res)/\In w' base g (⟨h.trap 6,l,[],[],none⟩:Ev).h (⟨h.trap 6,l,[],[],none⟩:Ev).m (os++(⟨h.trap 6,l,[],[],none⟩:Ev).out) (ss++(⟨h.trap 6,l,[],[],none⟩:Ev).ax)/\Fr base w w':=by have HI:=kH I;have L2:=kH (dR I 6);unfold bW;rw[arP,arP];subst ho;unfold W at ha hb hn;go_enter func161,ntmps161;go_wp2_with (go_at_call 97;first|(refine(aG _ _ _ _ ab).mono ?_;rintro e w' ⟨rfl,rfl⟩)|(refine(ai _ _ _ _ ab).mono ?_;rintro e w' ⟨rfl,rfl⟩));refine L2.mono ?_;rintro e w' ⟨rfl,I2,B2⟩;have HI2:=kH I2;have HB2:=kH B2;go_wp2_with fail;go_ret2;exact⟨rfl,HI2,HI.below HB2⟩
theorem p9 (I:In w base g h l os ss)(T:Tb w base)(hl:l.length<=140737488351232)(hss:ss.length<=1000000)(hos:os.length<=1000000)(op a b n)(ha:W a)(hb:W b)(hn:W n):Calls prog 161 #[pointer (some ⟨g,0,none⟩),int i64 op,int .u32 a,int .u32 b,int .u32 n] w fun e w'=>e=returned (bW (gN h l op a b n).res)/\In w' base g (gN h l op a b n).h (gN h l op a b n).m (os++(gN h l op a b n).out) (ss++(gN h l op a b n).ax)/\Fr base w w':=by
 unfold gN;by_cases h1:op=1
 ·rw[awn h1];exact afm I T hl hss hos op a b n ha hb hn h1
 rw[awm h1];by_cases h2:op=2
 ·rw[awn h2];exact afn I T hl hss hos op a b n ha hb hn h2
 rw[awm h2];by_cases h3:op=3
 ·rw[awn (.inl h3)];exact afo I T hl hss hos op a b n ha hb hn h3
 by_cases h4:op=4
 ·rw[awn (.inr h4)];exact afp I T hl hss hos op a b n ha hb hn h4
 rw[ak];by_cases h5:11<=op/\op<=15
 ·rw[awn h5];exact P9 I T hl hss hos op a b n ha hb hn h5
 rw[awm h5];by_cases h6:16<=op/\op<=18
 ·rw[awn h6];exact Lt I T hl hss hos op a b n ha hb hn h6
 rw[awm h6];by_cases h7:19<=op/\op<=27
 ·rw[awn h7];exact Qa I T hl hss hos op a b n ha hb hn h7
 rw[awm h7];by_cases h8:28<=op/\op<=45
 ·rw[awn h8];exact zT I T hl hss hos op a b n ha hb hn h8
 rw[awm h8];by_cases h9:46<=op/\op<=56
 ·rw[awn h9];exact Qb I T hl hss hos op a b n ha hb hn h9
 rw[awm h9];by_cases h10:op=58
 ·rw[awn h10];exact Qc I T hl hss hos op a b n ha hb hn h10
 rw[awm h10];by_cases h11:op=59
 ·rw[awn h11];exact Lu I T hl hss hos op a b n ha hb hn h11
 rw[awm h11];exact P8 I T hl hss hos op a b n ha hb hn ab
end Hc
namespace Hc
variable[Inhabited Hc.bH]
open Mm Hh
theorem FT {base}{h}(I:In w base g h l os ss)(T:Tb w base)(hl:l.length<=140737488351232)(hss:ss.length<=1000000)(hos:os.length<=1000000)(op rd r1 r2 im)(d0:0<=rd)(d1:rd<32)(s0:0<=r1)(s1:r1<32)(t0:0<=r2)(t1:r2<32)(i0 : -2147483648<=im)(i1:im<=2147483647):Calls prog 135 #[pointer (some ⟨g,0,none⟩),agg #[int i64 op,int i64 rd,int i64 r1,int i64 r2,int i32 im]] w fun e w'=>e=returned (tuple #[])/\In w' base g (ins h l op rd r1 r2 im).h (ins h l op rd r1 r2 im).m (os++(ins h l op rd r1 r2 im).out) (ss++(ins h l op rd r1 r2 im).ax)/\Fr base w w':=by
 obtain⟨r1,rfl⟩:=arI s0;obtain⟨r2,rfl⟩:=arI t0;have HI:Hid (In w base g h l os ss):=I;have HT:Hid (Tb w base):=T;obtain⟨c0,rfl,J⟩:=I;have hr1:r1<32:=ab;have hr2:r2<32:=ab;have k1:=J.reg hr1;have k2:=J.reg hr2;have hg:=J.lt;have hbl:base<=w.heap.size:=J.az;have wa:=W.reg J.ok r1;have wb:=W.reg J.ok r2;have wn:=W.lo im;have HE:Hid (ins c0.h l op rd (r1:Int) (r2:Int) im=done (gN c0.h l op (rg c0.h r1) (rg c0.h r2) (im%4294967296)) rd.toNat (rX c0.h op (rg c0.h r1) (rg c0.h r2) (im%4294967296))):=rfl;have ok:Hid ((gN c0.h l op (rg c0.h r1) (rg c0.h r2) (im%4294967296)).Ok l):=Fb J.ok l wa wb wn;have hx:Hid (W (rX c0.h op (rg c0.h r1) (rg c0.h r2) (im%4294967296))):=.rX;have N:Hid (∀W1,In W1 base g c0.h l os ss->Calls prog 160 #[pointer (some ⟨g,0,none⟩),int i64 op,int .u32 (rg c0.h r1),int .u32 (rg c0.h r2),int .u32 (im%4294967296)] W1 fun e w'=>e=returned (int .u32 (rX c0.h op (rg c0.h r1) (rg c0.h r2) (im%4294967296)))/\Gr W1 w'):=fun W1 I1=>(Ou I1 op _ _ _ wa.1 wa.2 wb.1 wb.2 wn.1 wn.2).mono fun e w' h=>⟨h.1,by rw[h.2];exact Gr.refl _⟩
 have E:Hid (∀W1,In W1 base g c0.h l os ss->Tb W1 base->Calls prog 161 #[pointer (some ⟨g,0,none⟩),int i64 op,int .u32 (rg c0.h r1),int .u32 (rg c0.h r2),int .u32 (im%4294967296)] W1 fun e w'=>e=returned (bW (gN c0.h l op (rg c0.h r1) (rg c0.h r2) (im%4294967296)).res)/\In w' base g (gN c0.h l op (rg c0.h r1) (rg c0.h r2) (im%4294967296)).h (gN c0.h l op (rg c0.h r1) (rg c0.h r2) (im%4294967296)).m (os++(gN c0.h l op (rg c0.h r1) (rg c0.h r2) (im%4294967296)).out) (ss++(gN c0.h l op (rg c0.h r1) (rg c0.h r2) (im%4294967296)).ax)/\Fr base W1 w'):=fun W1 I1 T1=>p9 I1 T1 hl hss hos op _ _ _ wa wb wn
 rw[HE.out];generalize gN c0.h l op (rg c0.h r1) (rg c0.h r2) (im%4294967296)=Z at *
 generalize rX c0.h op (rg c0.h r1) (rg c0.h r2) (im%4294967296)=X at *
 generalize rg c0.h r1=xa at *
 generalize rg c0.h r2=xb at *
 generalize c0.h=h0 at *
 clear J HE wa wb wn T;unfold done bW at *
 simp only at *
 have hw0:=kH ok.res;clear ok;generalize Z.res=rr at *
 cases rr with
 |none=>
  have e0:Z.h.put rd.toNat none=Z.h:=rfl;rw[e0];clear e0;generalize Z.h=HH at *
  go_enter func135,ntmps135;go_wp2_with fail;go_quiet (fail);go_wp2_with fail;refine(N _ (HI.of (br.drewN _))).mono ?_;rintro e w1 ⟨rfl,G0⟩;have G1:=(br.drewN _).trans G0;have HB1:=kH ((G0.block _ aq).trans (awk w _));have HI1:=kH (HI.of G1);have mO:Hid (Fr base w w1):=.aJ G1 hbl;have HT1:=kH (HT.of mO);have q0:w1.cell? ⟨w.heap.size,0,none⟩=some (int i64 op):=awl _ _ _ _ _ _ HB1;clear G0 G1 N k1 k2 hg;go_wp2_with fail;refine(E _ HI1 HT1).mono ?_;rintro e w2 ⟨rfl,I2,F2⟩;have HB2:=kH ((F2.keep _ _ _ _ HB1 an an an).trans HB1);have q1:w2.cell? ⟨w.heap.size,1,none⟩=some (int i64 rd):=awl _ _ _ _ _ _ HB2;have HI2:=kH I2;have mP:=kH (mO.trans F2);clear I2 F2 E HB1 HB2 HI1 mO HT1 HT HI q0;generalize hw:w2=w3 at *
  have HI3:=kH HI2;have FU:=kH mP;clear hw HI2 mP q1;obtain⟨c1,hc1,J1⟩:=HI3.out;have Uj:w3.cell? ⟨g,35,none⟩=some (int i64 HH.state):=(J1.hcell ab).trans (by rw[<-hc1];exact bu J1.ok 3);have P6:w3.cell? ⟨g,32,none⟩=some (int .u32 HH.pc):=(J1.hcell ab).trans (by rw[<-hc1];exact bu J1.ok 0);have fz:=J1.fz;have HP:Hid (In (w3.setCell ⟨g,32,none⟩ (int .u32 X)) base g (HH.go X) Z.m (os++Z.out) (ss++Z.ax)):=by
   have:=(J1.set ab (E8 J1.ok X) (J1.ok.go hx.out.1 hx.out.2)).tY;rw[<-hc1];exact this
  have HQ:Hid (Fr base w (w3.setCell ⟨g,32,none⟩ (int .u32 X))):=FU.out.trans (HI3.out.below ((Ch.refl g w3).setCell _ _));clear J1 hc1;by_cases h0:HH.state=0
  ·have e1:Hid (HH.on X=HH.go X):=by unfold Hid Hv.on;rw[awn h0]
   rw[h0]at Uj;clear h0;generalize HH.pc=pc at *
   go_wp2_with fail;go_end0;exact⟨rfl,by rw[e1.out];exact HP.out,HQ.out⟩
  ·have e1:Hid (HH.on X=HH):=by unfold Hid Hv.on;rw[awm h0]
   have b0:(HH.state ==0)=false:=by simp[h0]
   clear h0;generalize HH.state=st at *
   generalize HH.pc=pc at *
   go_wp2_with fail;go_end0;exact⟨rfl,by rw[e1.out];exact HI3.out,FU.out⟩
 |some x=>
  have e0:Z.h.put rd.toNat (some x)=Z.h.set rd.toNat x:=rfl;rw[e0];clear e0;have S:Hid (∀w2,In w2 base g Z.h Z.m (os++Z.out) (ss++Z.ax)->Calls prog 162 #[pointer (some ⟨g,0,none⟩),int i64 rd,int .u32 x] w2 fun e w'=>e=returned (tuple #[])/\In w' base g (Z.h.set rd.toNat x) Z.m (os++Z.out) (ss++Z.ax)/\Ch g w2 w'):=fun w2 I2=>zD I2 rd x d0 d1 hw0.1 hw0.2
  generalize Z.h.set rd.toNat x=HH at *
  simp only[asi,Option.isSome_some]at E;go_enter func135,ntmps135;go_wp2_with fail;go_quiet (fail);go_wp2_with fail;refine(N _ (HI.of (br.drewN _))).mono ?_;rintro e w1 ⟨rfl,G0⟩;have G1:Gr w w1:=(br.drewN _).trans G0;have HB1:Hid (w1.heap[w.heap.size]?=some (.cells #[int i64 op,int i64 rd,int i64 r1,int i64 r2,int i32 im] 59 (0,0))):=(G0.block _ aq).trans (awk w _);have HI1:Hid (In w1 base g h0 l os ss):=HI.of G1;have mO:Hid (Fr base w w1):=.aJ G1 hbl;have HT1:Hid (Tb w1 base):=HT.of mO;have q0:w1.cell? ⟨w.heap.size,0,none⟩=some (int i64 op):=awl _ _ _ _ _ _ HB1;clear G0 G1 N k1 k2 hg;go_wp2_with fail;refine(E _ HI1 HT1).mono ?_;rintro e w2 ⟨rfl,I2,F2⟩;have HB2:Hid (w2.heap[w.heap.size]?=some (.cells #[int i64 op,int i64 rd,int i64 r1,int i64 r2,int i32 im] 59 (0,0))):=(F2.keep _ _ _ _ HB1 an an an).trans HB1;have q1:w2.cell? ⟨w.heap.size,1,none⟩=some (int i64 rd):=awl _ _ _ _ _ _ HB2;have HI2:Hid (In w2 base g Z.h Z.m (os++Z.out) (ss++Z.ax)):=I2;have mP:Hid (Fr base w w2):=mO.trans F2;clear I2 F2 E HB1 HB2 HI1 mO HT1 HT HI q0;go_wp2_with fail;refine(S _ HI2).mono ?_;rintro e w3 ⟨rfl,I3,C3⟩;have HI3:Hid (In w3 base g HH Z.m (os++Z.out) (ss++Z.ax)):=I3;have FU:Hid (Fr base w w3):=mP.out.trans (HI2.out.below C3);clear I3 C3 S HI2 mP q1;obtain⟨c1,hc1,J1⟩:=HI3.out;have Uj:w3.cell? ⟨g,35,none⟩=some (int i64 HH.state):=(J1.hcell ab).trans (by rw[<-hc1];exact bu J1.ok 3);have P6:w3.cell? ⟨g,32,none⟩=some (int .u32 HH.pc):=(J1.hcell ab).trans (by rw[<-hc1];exact bu J1.ok 0);have fz:=J1.fz;have HP:Hid (In (w3.setCell ⟨g,32,none⟩ (int .u32 X)) base g (HH.go X) Z.m (os++Z.out) (ss++Z.ax)):=by
   have:=(J1.set ab (E8 J1.ok X) (J1.ok.go hx.out.1 hx.out.2)).tY;rw[<-hc1];exact this
  have HQ:Hid (Fr base w (w3.setCell ⟨g,32,none⟩ (int .u32 X))):=FU.out.trans (HI3.out.below ((Ch.refl g w3).setCell _ _));clear J1 hc1;by_cases h0:HH.state=0
  ·have e1:Hid (HH.on X=HH.go X):=by unfold Hid Hv.on;rw[awn h0]
   rw[h0]at Uj;clear h0;generalize HH.pc=pc at *
   go_wp2_with fail;go_end0;exact⟨rfl,by rw[e1.out];exact HP.out,HQ.out⟩
  ·have e1:Hid (HH.on X=HH):=by unfold Hid Hv.on;rw[awm h0]
   have b0:(HH.state ==0)=false:=by simp[h0]
   clear h0;generalize HH.state=st at *
   generalize HH.pc=pc at *
   go_wp2_with fail;go_end0;exact⟨rfl,by rw[e1.out];exact HI3.out,FU.out⟩
end Hc
namespace Bk
open Mm Hh
def sJ (x:Int):List Value:=[int i64 (Dc.aO x),int i64 (Dc.jd (Dc.aM (Dc.aO x)) x),int i64 (Dc.dh (Dc.aM (Dc.aO x)) x),int i64 (Dc.cz (Dc.aM (Dc.aO x)) x),int i32 (Dc.bU (Dc.aM (Dc.aO x)) x)]
def uQ (xs:List Int):List Value:=xs.flatMap sJ
theorem Qd (xs)(x):uQ (xs++[x])=uQ xs++sJ x:=by simp[uQ]
theorem I6:∀(xs:List Int) (i j:Nat) (x:Int),xs[i]?=some x→j<5→(uQ xs)[i*5+j]?=(sJ x)[j]?
 | [],i,j,x,h,_=>by simp at h
 |p::r,0,j,x,h,hj=>by
  simp at h;subst h;show(sJ p++uQ r)[0*5+j]?=_
  rw[asY,arH,arO (by simpa[sJ]using hj)]
 |p::r,i+1,j,x,h,hj=>by
  have ih:=I6 r i j x (by simpa using h) hj;show(sJ p++uQ r)[(i+1)*5+j]?=_
  rw[arK (by simp[sJ];omega)];rw[show(i+1)*5+j-(sJ p).length=i*5+j by simp[sJ];omega];exact ih
end Bk
namespace Hf
open Mm Hh
theorem Dh {W:World}{z1 z2 z3 z4}(h:W.heap[g]?=some (.cells #[z0,z1,z2,z3,z4] t (0,0)))(a b c d e)(o):((((((W.setCell ⟨g,0,none⟩ a).setCell ⟨g,1,none⟩ b).setCell ⟨g,2,none⟩ c).setCell ⟨g,3,none⟩ d).setCell ⟨g,4,none⟩ e).alloc o).heap[g]?=some (.cells #[a,b,c,d,e] t (0,0)):=by have h0:=awE W g 0 _ _ a h;have h1:=awE _ g 1 _ _ b h0;have h2:=awE _ g 2 _ _ c h1;have h3:=awE _ g 3 _ _ d h2;have h4:=awE _ g 4 _ _ e h3;exact(((Gr.refl _).alloc o).block _ (gs h4).1).trans h4
theorem kK (x0 x1 x2 x3 x4):(#[int i64 x0,int i64 x1,int i64 x2,int i64 x3,int i32 x4]:Array Value).all (·.oneCell')=true:=by refine aw0 (cs:=[int i64 x0,int i64 x1,int i64 x2,int i64 x3,int i32 x4]) ?_;intro u hu;simp only[arG,arN,awQ]at hu;rcases hu with rfl|rfl|rfl|rfl|rfl<;>rfl
theorem iI:(prog.info? 59).map (·.size)=some 5:=al
theorem gU {p t:Tmp}{ty:TypeId}(h:fn.results=#[.cell p ty,.tmp t])(tmps:Array Value)(w)(g)(tt)(cs)(fr)(d)
  (v)(hp:tmps.getD p undef=.pointer (some ⟨g,0,none⟩))(hv:tmps.getD t undef=v)(hg:w.heap[g]?=some (.cells cs tt fr))
  (hu:P.underlying ty=some d)(hd:(match d with|.struct _|.array _ _=>true|_=>false)=true)(hi:(P.info? ty).map (·.size)=some cs.size):
  (results fn tmps).run P w=.ok (.tuple #[.agg cs,v]) w:=by
 subst hv;have hp':tmps[p]?.getD undef=.pointer (some ⟨g,0,none⟩):=by simpa using hp
 simp[results,h,hp',asAddr,axn w g tt ty cs fr d hg hu hd hi]
theorem oG (cap)(pc)(M:Mem w ao n l)(T:Dw.oV w)(hn:n<=140737488351232)(h0:0<=pc)(h1:pc<4294967296):Calls prog 29 #[slice ao n cap,int .u32 pc] w fun e w'=>e=returned (tuple #[Dw.kv (aT l 13 pc),int i64 (Bk.kJ l pc)])/\Gr w w':=by
 have L:Hid (∀W:World,Gr w W->Calls prog 64 #[slice ao n cap,int i64 13,int .u32 pc] W fun e w'=>e=returned (tuple #[int .u32 (aT l 13 pc),.bool (bR l 13 pc)])/\w'=W):=fun W G=>Mm.eQ cap 13 pc (M.of G) hn h0 h1
 have wx:=W.aT l 13 pc;have HT:Hid (∀W:World,Gr w W->Dw.oV W):=fun W G=>⟨fun i v e=>(G.cell _ (by exact Dw.lt_of_cell (T.shapes i v e))).trans (T.shapes i v e),fun i v e=>(G.cell _ (by exact Dw.lt_of_cell (T.uppers i v e))).trans (T.uppers i v e)⟩
 have D:Hid (∀W:World,Gr w W->Calls prog 14 #[int .u32 (aT l 13 pc)] W fun e w'=>e=returned (tuple #[Dw.kv (aT l 13 pc),.bool (Dw.gI (aT l 13 pc))])/\Gr W w'):=fun W G=>(Dw.gz _ W (HT W G) wx.1 wx.2).mono fun e w' h=>⟨h.1,h.2.1⟩
 have E1:Hid (bR l 13 pc=false->aT l 13 pc=0):=Bk.aaY;have E2:Hid (Bk.kJ l pc=if bR l 13 pc=true then(if Dc.aO (aT l 13 pc)=0 then 2 else 0)else 1):=rfl;generalize aT l 13 pc=x at *
 generalize bR l 13 pc=B at *
 generalize Bk.kJ l pc=c at *
 clear M T HT wx;cases B with
 |false=>
  have e1:=E1 rfl;have e2:=E2;subst e1 e2;have e3:=(Dw.jf Bk.aiD).1;rw[e3];clear E1 E2 D e3;unfold Dw.dm;go_enter func29,ntmps29;go_wp2_with fail;refine(L _ br).mono ?_;rintro e w1 ⟨rfl,rfl⟩;clear L;go_wp2_with (refine awx rfl 59 _ _ rfl w.heap.size #[int i64 0,int i64 0,int i64 0,int i64 0,int i32 0] rfl rfl 59 _ (awk w _) iI rfl rfl ?_);refine awt (v:=tuple #[agg #[int i64 0,int i64 0,int i64 0,int i64 0,int i32 0],int i64 1]) (gU results29 _ _ _ _ _ (0,0) _ _ rfl rfl (awk w _) underlying59 rfl iI) rfl ⟨rfl,?_⟩;exact(Gr.refl _).alloc _
 |true=>
  by_cases hd:Dc.aO x=0
  ·have e2:c=2:=by rw[E2.out,awn rfl,awn hd]
   obtain⟨d1,d2⟩:=Dw.jf hd;rw[d1,d2]at D;rw[d1];unfold Dw.dm at D ⊢;subst e2;clear E1 E2 d1 d2 hd;go_enter func29,ntmps29;go_wp2_with fail;refine(L _ br).mono ?_;rintro e w1 ⟨rfl,rfl⟩;clear L;go_wp2_with fail;refine(D _ br).mono ?_;rintro e w1 ⟨rfl,G1⟩;have HB:=kH ((G1.block _ aq).trans (awk w _));have aU:=kH (br.trans G1);have hlt:=(arz.1 HB).1;have r0:w1.cell? ⟨w.heap.size,0,none⟩=some (int i64 0):=awl _ _ _ _ _ _ HB;have r1:w1.cell? ⟨w.heap.size,1,none⟩=some (int i64 0):=awl _ _ _ _ _ _ HB;have r2:w1.cell? ⟨w.heap.size,2,none⟩=some (int i64 0):=awl _ _ _ _ _ _ HB;have r3:w1.cell? ⟨w.heap.size,3,none⟩=some (int i64 0):=awl _ _ _ _ _ _ HB;have r4:w1.cell? ⟨w.heap.size,4,none⟩=some (int i32 0):=awl _ _ _ _ _ _ HB;have f3:∀j,w1.frozen? ⟨w.heap.size,j,none⟩=false:=fun j=>awM _ _ _ _ _ HB
   clear G1 D;go_wp2_with fail;refine awt (v:=tuple #[agg #[int i64 0,int i64 0,int i64 0,int i64 0,int i32 0],int i64 2]) (gU results29 _ _ _ _ _ (0,0) _ _ rfl rfl (Dh HB _ _ _ _ _ _) underlying59 rfl iI) rfl ⟨rfl,?_⟩;exact(((((aU.setCell aq _).setCell aq _).setCell aq _).setCell aq _).setCell aq _).alloc _
  ·have e2:c=0:=by rw[E2.out,awn rfl,awm hd]
   have d2:Dw.gI x=true:=by unfold Dw.gI;simp[hd]
   rw[d2]at D;unfold Dw.kv Dw.dm at D ⊢;subst e2;clear E1 E2 d2 hd;generalize Dc.jd (Dc.aM (Dc.aO x)) x=x1 at *
   generalize Dc.dh (Dc.aM (Dc.aO x)) x=x2 at *
   generalize Dc.cz (Dc.aM (Dc.aO x)) x=x3 at *
   generalize Dc.bU (Dc.aM (Dc.aO x)) x=x4 at *
   generalize Dc.aO x=x0 at *
   go_enter func29,ntmps29;go_wp2_with fail;refine(L _ br).mono ?_;rintro e w1 ⟨rfl,rfl⟩;clear L;go_wp2_with fail;refine(D _ br).mono ?_;rintro e w1 ⟨rfl,G1⟩;have HB:=kH ((G1.block _ aq).trans (awk w _));have aU:=kH (br.trans G1);have hlt:=(arz.1 HB).1;have r0:w1.cell? ⟨w.heap.size,0,none⟩=some (int i64 0):=awl _ _ _ _ _ _ HB;have r1:w1.cell? ⟨w.heap.size,1,none⟩=some (int i64 0):=awl _ _ _ _ _ _ HB;have r2:w1.cell? ⟨w.heap.size,2,none⟩=some (int i64 0):=awl _ _ _ _ _ _ HB;have r3:w1.cell? ⟨w.heap.size,3,none⟩=some (int i64 0):=awl _ _ _ _ _ _ HB;have r4:w1.cell? ⟨w.heap.size,4,none⟩=some (int i32 0):=awl _ _ _ _ _ _ HB;have f3:∀j,w1.frozen? ⟨w.heap.size,j,none⟩=false:=fun j=>awM _ _ _ _ _ HB
   clear G1 D;go_wp2_with fail;refine awt (v:=tuple #[agg #[int i64 x0,int i64 x1,int i64 x2,int i64 x3,int i32 x4],int i64 0]) (gU results29 _ _ _ _ _ (0,0) _ _ rfl rfl (Dh HB _ _ _ _ _ _) underlying59 rfl iI) rfl ⟨rfl,?_⟩;exact(((((aU.setCell aq _).setCell aq _).setCell aq _).setCell aq _).setCell aq _).alloc _
end Hf
namespace Hc
variable[Inhabited Hc.bH]
open Mm Hh
variable{base:Nat}{h:Hv}
structure TT (w:World) (base:Nat):Prop where
 tab:Dw.oV w
 tb:Tb w base
 b1:0<base
 b2:3<base
theorem TT.of (T:TT w base)(h:Fr base w w'):TT w' base:=⟨⟨fun i n e=>(aw4 h.below (by exact T.b1)).trans (T.tab.shapes i n e),fun i n e=>(aw4 h.below (by exact T.b2)).trans (T.tab.uppers i n e)⟩,T.tb.of h,T.b1,T.b2⟩
theorem ym (f x):0<=Dc.jd f x/\Dc.jd f x<32:=by unfold Dc.jd;split<;>omega
theorem sK {v}(f)(h0:0<=v)(h1:v<4294967296) : -2147483648<=Dc.bU f v/\Dc.bU f v<2147483648:=by
 unfold Dc.bU Wd.sg Dc.jE;repeat' split
 all_goals omega
theorem bD {md}{Q}{i}(hr:Region.ready md ops listed=[i])(hoi:ops[i]?=some o)(hg:o.guard=none)(ty)(x y)(ho:o.op=.store ty x y)(g)(cells)(hx:a.eval x=pointer (some ⟨g,0,none⟩))(hy:a.eval y=agg cells)(t)(old)(hb:w.heap[g]?=some (.cells old t (0,0)))(hi:(P.info? ty).map (·.size)=some cells.size)(hold:old.size=cells.size)(h1:cells.all (·.oneCell')=true)(hS:S (w.setRow g cells))(h:wpAnyH P md ops Q S fuel (listed.setIfInBounds i true) (a.put o.dst undef) (w.setRow g cells)):wpAnyH P md ops Q S (fuel+1) listed a w:=aww hr aq (awp hoi (fun K hK=>iM hg ty x y ho g cells hx hy t old hb hi hold h1 (hK.out _ _ hS fun _=>h)) awu)
theorem aK {x}(F:World->Prop)(hF:F x)(h:∀y,F y->p y):p x:=h x hF
theorem bS (g:Gr w w')(h:w.heap[k]?=some x):w'.heap[k]?=some x:=by rw[axk g k (gs h).1];exact h
theorem abw (hc:¬Bk.kJ l h.pc=0):eF h l=⟨h.trap (Bk.kJ l h.pc),l,[],[]⟩:=by
 unfold eF Bk.kJ at *
 by_cases ok:bR l 13 h.pc=true
 ·rw[awn ok]at hc ⊢;rw[awn ok];by_cases hd:Dc.aO (aT l 13 h.pc)=0
  ·rw[awn hd];unfold qz;rw[awn hd]
  ·rw[awm hd]at hc;exact absurd rfl hc
 ·rw[awm ok,awm ok]
theorem WA (hc:Bk.kJ l h.pc=0):eF h l=ins h l (Dc.aO (aT l 13 h.pc)) (Dc.jd (Dc.aM (Dc.aO (aT l 13 h.pc))) (aT l 13 h.pc)) (Dc.dh (Dc.aM (Dc.aO (aT l 13 h.pc))) (aT l 13 h.pc)) (Dc.cz (Dc.aM (Dc.aO (aT l 13 h.pc))) (aT l 13 h.pc)) (Dc.bU (Dc.aM (Dc.aO (aT l 13 h.pc))) (aT l 13 h.pc)):=by
 unfold eF;unfold Bk.kJ at hc;by_cases ok:bR l 13 h.pc=true
 ·rw[awn ok]at hc ⊢;by_cases hd:Dc.aO (aT l 13 h.pc)=0
  ·rw[awn hd]at hc;omega
  ·unfold qz;rw[awm hd]
 ·rw[awm ok]at hc;omega
theorem Di {base}(I:In w base g h l os ss)(T:TT w base)(hl:l.length≤140737488351232)(DO:Bk.kJ l h.pc=0->∀W,In W base g h l os ss->Tb W base->Calls prog 135 #[pointer (some ⟨g,0,none⟩),Dw.kv (aT l 13 h.pc)] W fun e w'=>e=returned (tuple #[])/\In w' base g (eF h l).h (eF h l).m (os++(eF h l).out) (ss++(eF h l).ax)/\Fr base W w'):Calls prog 107 #[pointer (some ⟨g,0,none⟩)] w fun e w'=>e=returned (tuple #[])/\In w' base g (eF h l).h (eF h l).m (os++(eF h l).out) (ss++(eF h l).ax)/\Fr base w w':=by
 have Tr:Hid (∀W,In W base g h l os ss->∀c,Calls prog 134 #[pointer (some ⟨g,0,none⟩),int i64 c] W fun e w'=>e=returned (tuple #[])/\In w' base g (h.trap c) l os ss/\Ch g W w'):=fun W I c=>dR I c
 have HD:Hid _:=DO;clear DO;have HI:=kH I;have HT:=kH T;obtain⟨c0,rfl,J⟩:=I;obtain⟨ao,cap,hm,M⟩:=J.mem.mem;have k37:w.cell? ⟨g,37,none⟩=some (slice ao l.length cap):=(J.dQ 0).trans (by rw[hm];rfl);have P6:=(J.hcell ab).trans (bu J.ok 0);have hbl:=J.az;have hgl:=J.lt;have F:Hid (∀W:World,Gr w W->_):=fun W G=>Hf.oG cap c0.h.pc (M.of G) (T.of (Fr.aJ G hbl)).tab hl J.ok.oW J.ok.gP
 have lM:Hid (∀W:World,Gr w W->W.cell? ⟨g,37,none⟩=some (slice ao l.length cap)/\W.cell? ⟨g,32,none⟩=some (int .u32 c0.h.pc)):=fun W G=>⟨(G.cell _ (by exact hgl)).trans k37,(G.cell _ (by exact hgl)).trans P6⟩
 have HN:Hid (¬Bk.kJ l c0.h.pc=0->eF c0.h l=⟨c0.h.trap (Bk.kJ l c0.h.pc),l,[],[]⟩):=abw;unfold Dw.kv Dw.dm at F HD;generalize aT l 13 c0.h.pc=x at *
 generalize eF c0.h l=Z at *
 clear J M hm T;generalize Dc.jd (Dc.aM (Dc.aO x)) x=x1 at *
 generalize Dc.dh (Dc.aM (Dc.aO x)) x=x2 at *
 generalize Dc.cz (Dc.aM (Dc.aO x)) x=x3 at *
 generalize Dc.bU (Dc.aM (Dc.aO x)) x=x4 at *
 generalize Dc.aO x=x0 at *
 generalize Bk.kJ l c0.h.pc=c at *
 generalize c0.h.pc=pc at *
 generalize c0.h=h at *
 go_enter func107,ntmps107;go_wp2_with fail;refine awN (S:=fun W=>W.cell? ⟨g,37,none⟩=some (slice ao l.length cap)/\W.cell? ⟨g,32,none⟩=some (int .u32 pc)) al ?_ (fun hHeld=>?_)
 ·exact lM _ (Gr.refl _).drew
 have bA:=kH hHeld;clear hHeld;refine tK 0 (pointer (some ⟨g,0,none⟩)) bA ?_;refine tK 1 (pointer (some ⟨g,0,none⟩)) bA ?_;refine tK 2 (pointer (some ⟨g,37,none⟩)) bA ?_;refine tK 3 (slice ao l.length cap) bA ?_;refine tK 4 (pointer (some ⟨g,0,none⟩)) bA ?_;refine tK 5 (pointer (some ⟨g,0,none⟩)) bA ?_;refine tK 6 (pointer (some ⟨g,0,none⟩)) bA ?_;refine tK 7 (pointer (some ⟨g,32,none⟩)) bA ?_;refine tK 8 (int .u32 pc) bA ?_;refine aww (rs:=[9,13]) al aq ?_;refine awp rfl (fun K hK=>?cf) (awp rfl (fun K hK=>?af) awu)
 case cf=>
  go_simp;refine(F _ (Gr.refl _).drew).mono ?_;rintro e wd ⟨rfl,Gd⟩;have gV:Hid (Gr w wd):=(Gr.refl _).drew.trans Gd;clear Gd;have gH:Hid _:=lM _ gV;refine hK.out _ _ gH (fun hx=>?_);clear hK K hx;refine tK 10 (tuple #[agg #[int i64 x0,int i64 x1,int i64 x2,int i64 x3,int i32 x4],int i64 c]) gH ?_;refine tK 11 (agg #[int i64 x0,int i64 x1,int i64 x2,int i64 x3,int i32 x4]) gH ?_;refine tK 12 (int i64 c) gH ?_;refine aww (rs:=[13]) al aq ?_;refine awp rfl (fun K hK=>?_) awu;go_simp;refine hK.out _ _ (lM _ (gV.alloc _)) (fun hx=>?_);clear hK K hx;refine bD (i:=14) al rfl rfl 59 (tmp 2) (tmp 15) rfl wd.heap.size #[int i64 x0,int i64 x1,int i64 x2,int i64 x3,int i32 x4] aw aw 59 _ (awk wd _) Hf.iI rfl (Hf.kK _ _ _ _ _) ?_ ?_
  ·exact lM _ (ag (gV.alloc _) gV.size _)
  refine tK 15 (int i64 c) (lM _ (ag (gV.alloc _) gV.size _)) ?_;refine awT al ?_ _;refine aK (fun W=>W.heap[wd.heap.size]?=some (.cells #[int i64 x0,int i64 x1,int i64 x2,int i64 x3,int i32 x4] 59 (0,0))/\Gr w W) ?_ ?_
  ·exact⟨awJ _ _ _ _ _ (0,0) (awk wd _),ag (gV.alloc _) gV.size _⟩
  clear gV gH;generalize wd.heap.size=gi at *
  clear wd;clear lM bA F;rintro wD ⟨BD,GD⟩;have q0:wD.cell? ⟨gi,0,none⟩=some (int i64 x0):=awl _ _ _ _ _ _ BD;have q1:wD.cell? ⟨gi,1,none⟩=some (int i64 x1):=awl _ _ _ _ _ _ BD;have q2:wD.cell? ⟨gi,2,none⟩=some (int i64 x2):=awl _ _ _ _ _ _ BD;have q3:wD.cell? ⟨gi,3,none⟩=some (int i64 x3):=awl _ _ _ _ _ _ BD;have q4:wD.cell? ⟨gi,4,none⟩=some (int i32 x4):=awl _ _ _ _ _ _ BD;have Qg:Hid (In wD base g h l os ss):=HI.of GD;have Qh:Hid (Fr base w wD):=Fr.aJ GD hbl;have HTD:Hid (TT wD base):=HT.of Qh;clear BD GD HI HT k37 P6;by_cases hc:c=0
  ·have Do:Hid (∀W,In W base g h l os ss->Tb W base->Calls prog 135 #[pointer (some ⟨g,0,none⟩),agg #[int i64 x0,int i64 x1,int i64 x2,int i64 x3,int i32 x4]] W fun e w'=>e=returned (tuple #[])/\In w' base g Z.h Z.m (os++Z.out) (ss++Z.ax)/\Fr base W w'):=HD hc;subst hc;clear HD HN Tr;go_wp2_with fail;refine(Do _ Qg HTD.tb).mono ?_;rintro e w2 ⟨rfl,I2,C2⟩;have HI2:Hid (In w2 base g Z.h Z.m (os++Z.out) (ss++Z.ax)):=I2;have mP:Hid (Fr base w w2):=Qh.trans C2;clear I2 C2 Do Qg Qh HTD;go_wp2_with fail;go_end0;exact⟨rfl,HI2,mP⟩
  ·have hb:(c ==0)=false:=by simpa using hc
   have HZ:Hid (Z=⟨h.trap c,l,[],[]⟩):=HN hc;clear HD HN hc;go_wp2_with fail;refine(Tr _ Qg c).mono ?_;rintro e w2 ⟨rfl,I2,C2⟩;have HI2:Hid (In w2 base g Z.h Z.m (os++Z.out) (ss++Z.ax)):=by unfold Hid;rw[HZ.out,arP,arP];exact I2
   have mP:Hid (Fr base w w2):=Qh.trans (Qg.below C2);clear I2 C2 Tr Qg Qh HTD HZ;go_wp2_with fail;refine awt (axf results107 _ _ _) rfl ?_;exact⟨rfl,HI2,mP⟩
 case af=>
  go_simp;refine hK.out _ _ (lM _ br.drew) (fun hx=>?_);clear hK K hx;refine aww (rs:=[9]) al aq ?_;refine awp rfl (fun K hK=>?_) awu;go_simp;refine(F _ br.drew).mono ?_;rintro e wd ⟨rfl,Gd⟩;have uR:Hid (wd.heap[w.heap.size]?=some (.cells _ 59 (0,0))):=bS Gd (bS (Gr.refl _).drew (awk w _));have gV:Hid (Gr w wd):=Gr.trans (Gr.drew ((Gr.refl w).alloc _)) Gd;clear Gd;have gH:Hid _:=lM _ gV;refine hK.out _ _ gH (fun hx=>?_);clear hK K hx;refine tK 10 (tuple #[agg #[int i64 x0,int i64 x1,int i64 x2,int i64 x3,int i32 x4],int i64 c]) gH ?_;refine tK 11 (agg #[int i64 x0,int i64 x1,int i64 x2,int i64 x3,int i32 x4]) gH ?_;refine tK 12 (int i64 c) gH ?_;refine bD (i:=14) al rfl rfl 59 (tmp 2) (tmp 15) rfl w.heap.size #[int i64 x0,int i64 x1,int i64 x2,int i64 x3,int i32 x4] aw aw 59 _ uR Hf.iI rfl (Hf.kK _ _ _ _ _) ?_ ?_
  ·exact lM _ (ag gV (arA _) _)
  refine tK 15 (int i64 c) (lM _ (ag gV (arA _) _)) ?_;refine awT al ?_ _;refine aK (fun W=>W.heap[w.heap.size]?=some (.cells #[int i64 x0,int i64 x1,int i64 x2,int i64 x3,int i32 x4] 59 (0,0))/\Gr w W) ?_ ?_
  ·exact⟨awJ _ _ _ _ _ (0,0) uR,ag gV (arA _) _⟩
  clear gV uR gH;obtain⟨gi,hgi⟩:∃g:Nat,g=w.heap.size:=⟨_,rfl⟩;rw[<-hgi];clear hgi wd;clear lM bA F;rintro wD ⟨BD,GD⟩;have q0:wD.cell? ⟨gi,0,none⟩=some (int i64 x0):=awl _ _ _ _ _ _ BD;have q1:wD.cell? ⟨gi,1,none⟩=some (int i64 x1):=awl _ _ _ _ _ _ BD;have q2:wD.cell? ⟨gi,2,none⟩=some (int i64 x2):=awl _ _ _ _ _ _ BD;have q3:wD.cell? ⟨gi,3,none⟩=some (int i64 x3):=awl _ _ _ _ _ _ BD;have q4:wD.cell? ⟨gi,4,none⟩=some (int i32 x4):=awl _ _ _ _ _ _ BD;have Qg:Hid (In wD base g h l os ss):=HI.of GD;have Qh:Hid (Fr base w wD):=Fr.aJ GD hbl;have HTD:Hid (TT wD base):=HT.of Qh;clear BD GD HI HT k37 P6;by_cases hc:c=0
  ·have Do:Hid (∀W,In W base g h l os ss->Tb W base->Calls prog 135 #[pointer (some ⟨g,0,none⟩),agg #[int i64 x0,int i64 x1,int i64 x2,int i64 x3,int i32 x4]] W fun e w'=>e=returned (tuple #[])/\In w' base g Z.h Z.m (os++Z.out) (ss++Z.ax)/\Fr base W w'):=HD hc;subst hc;clear HD HN Tr;go_wp2_with fail;refine(Do _ Qg HTD.tb).mono ?_;rintro e w2 ⟨rfl,I2,C2⟩;have HI2:Hid (In w2 base g Z.h Z.m (os++Z.out) (ss++Z.ax)):=I2;have mP:Hid (Fr base w w2):=Qh.trans C2;clear I2 C2 Do Qg Qh HTD;go_wp2_with fail;go_end0;exact⟨rfl,HI2,mP⟩
  ·have hb:(c ==0)=false:=by simpa using hc
   have HZ:Hid (Z=⟨h.trap c,l,[],[]⟩):=HN hc;clear HD HN hc;go_wp2_with fail;refine(Tr _ Qg c).mono ?_;rintro e w2 ⟨rfl,I2,C2⟩;have HI2:Hid (In w2 base g Z.h Z.m (os++Z.out) (ss++Z.ax)):=by unfold Hid;rw[HZ.out,arP,arP];exact I2
   have mP:Hid (Fr base w w2):=Qh.trans (Qg.below C2);clear I2 C2 Tr Qg Qh HTD HZ;go_wp2_with fail;refine awt (axf results107 _ _ _) rfl ?_;exact⟨rfl,HI2,mP⟩
theorem Qi (I:In w base g h l os ss)(T:TT w base)(hl:l.length<=140737488351232)(hss:ss.length<=1000000)(hos:os.length<=1000000):Calls prog 107 #[pointer (some ⟨g,0,none⟩)] w fun e w'=>e=returned (tuple #[])/\In w' base g (eF h l).h (eF h l).m (os++(eF h l).out) (ss++(eF h l).ax)/\Fr base w w':=
 Di I T hl fun hc V I1 T1=>by
  have HW:=W.aT l 13 h.pc;rw[WA hc];have ib:=sK (Dc.aM (Dc.aO (aT l 13 h.pc))) HW.1 HW.2;exact FT I1 T1 hl hss hos _ _ _ _ _ (ym _ _).1 (ym _ _).2 (Ts.Pq _ _).1 (Ts.Pq _ _).2 (Ts.Pt _ _).1 (Ts.Pt _ _).2 ib.1 ab
theorem Lx (I:In w base g h l os ss)(T:TT w base)(hl:l.length<=140737488351232)(hf:¬Bk.kJ l h.pc=0):Calls prog 107 #[pointer (some ⟨g,0,none⟩)] w fun e w'=>e=returned (tuple #[])/\In w' base g (eF h l).h (eF h l).m (os++(eF h l).out) (ss++(eF h l).ax)/\Fr base w w':=Di I T hl fun hc=>absurd hc hf
end Hc
namespace Mm
end Mm
namespace Hc
variable[Inhabited Hc.bH]
open Mm Hh
end Hc
namespace Hc
variable[Inhabited Hc.bH]
open Mm Hh
def FV:List Int:=[0,0,0,0,0,0,0,0,0,0,0,0,0,0,0,0,1,2,4]
def mF:List Int:=[0,0,0,0,0,0,0,0,0,0,0,0,0,0,0,0,0,0,0,28,31,32,33,36,37,30,34,35]
theorem aby : prog.globalNamed "ferrybridge/hart.sizes" = some 13 := by kernel_rfl
theorem FW : prog.globalNamed "ferrybridge/hart.operations" = some 10 := by kernel_rfl
theorem abz:(prog.globals[13]?).map (·.type)=some 286:=al
theorem FX:(prog.globals[10]?).map (·.type)=some 258:=al
theorem LA:(List.range 19).map (Dw.look prog 3 286 (Rows.laid_ferrybridge_hart_sizes (H:=Unit)))=FV.map fun n=>some (int .u32 n):=al
theorem LB:(List.range 28).map (Dw.look prog 3 258 (Rows.laid_ferrybridge_hart_operations (H:=Unit)))=mF.map fun n=>some (int i64 n):=al
theorem TT.grow (T:TT w w.heap.size)(G:Gr w w'):TT w' w'.heap.size:=by have h:=T.of (Fr.aJ G (arA _));have s:=G.size;exact⟨h.tab,⟨h.tb.sizes,h.tb.opers,arD h.tb.b1 s,arD h.tb.b2 s⟩,arD h.b1 s,arD h.b2 s⟩
end Hc
namespace Mc
variable[Inhabited Hc.bH]
open Mm Hh Hc
variable{h:Hv}
structure Qv where
 h:Hv
 m:Value
 out:Value
 n:Int
 ax:Value
variable{d:Qv}
def qA (d:Qv):Array Value:=(hL d.h++[d.m,d.out,int i64 d.n,d.ax]).toArray
theorem gq {d}(o:d.h.Ok):(qA d).size=41:=by simp[qA,aF o]
theorem Qj {d}(o:d.h.Ok)(hi:i<37):(qA d)[i]?=(hL d.h)[i]?:=by have:=aF o;unfold qA;rw[arB,arO ab]
theorem jT {d}(o:d.h.Ok)(j):(qA d)[37+j]?=[d.m,d.out,int i64 d.n,d.ax][j]?:=by unfold qA;rw[arB,arK (by simp[aF o])];simp[aF o]
theorem ny (h1:d.m.oneCell'=true)(h2:d.out.oneCell'=true)(h3:d.ax.oneCell'=true):(qA d).all (·.oneCell')=true:=by refine aw0 ?_;intro v hv;simp only[hL,ar7,arY,arG,arN,awQ]at hv;rcases hv with(⟨n,_,rfl⟩|rfl|rfl|rfl|rfl|rfl)|rfl|rfl|rfl|rfl<;>first|rfl|assumption
theorem iQ:(prog.info? 142).map (·.size)=some 41:=al
theorem zQ:(prog.info? 142).bind (·.zero)=some (agg (qA ⟨h0,ay,ay,0,ay⟩)):=al
theorem nA (off)(v)(cs:Array Value):((#[v]:Array Value).zipIdx.foldl (fun cs (x)=>cs.setIfInBounds (off+x.2) x.1) cs)=cs.setIfInBounds off v:=rfl
theorem LC (o:h.Ok)(d)(od:d.h.Ok):((hA h).zipIdx.foldl (fun cs (x)=>cs.setIfInBounds (0+x.2) x.1) (qA d))=qA { d with h:=h }:=by
 have a1:=jg 0 (hA h) (qA d);have s1:=kE o;have s2:=gq od;apply asU;intro k;rw[a1.2 k];by_cases hk:k<37
 ·rw[eB,Qj (d:={ d with h:=h }) o hk];simp[hA]
 ·rw[ak];obtain⟨j,rfl⟩:∃j,k=37+j:=⟨k-37,ab⟩;rw[jT od,jT (d:={ d with h:=h }) o]
theorem FY {t}{it}{fs}{ps}(hi:P.info? t=some it)(hu:P.underlying t=some (.struct fs))(hz:it.zero=some z)(hp:fs.toList.mapM (fun f=>(P.info? f.type).map fun i=>(f.offset,i.size))=some ps){n}(p0:ps.toArray[0]?=some (0,n))(p1:ps.toArray[1]?=some (n,1))(p2:ps.toArray[2]?=some (n+1,1))(p3:ps.toArray[3]?=some (n+2,1))(p4:ps.toArray[4]?=some (n+3,1))(A)(hA:A.size=n)(v1 v2 v3 v4)(h1:v1.cells=#[v1])(h2:v2.cells=#[v2])(h3:v3.cells=#[v3])(h4:v4.cells=#[v4])(hs:z.cells.size=n+4):P.built t [(0,.agg A),(1,v1),(2,v2),(3,v3),(4,v4)]=some ((((((A.zipIdx.foldl (fun cs (x)=>cs.setIfInBounds (0+x.2) x.1) z.cells).setIfInBounds n v1).setIfInBounds (n+1) v2).setIfInBounds (n+2) v3).setIfInBounds (n+3) v4)):=by unfold Program.built;simp only[hi,hu,hz,hp];have a1:=(jg 0 A z.cells).1;unfold Instr.fill;simp only[p0];have e:(Value.agg A).cells=A:=rfl;rw[e,awm (by simp[hA];omega)];unfold Instr.fill;simp only[p1];rw[h1,awm (by rw[a1];simp;omega),nA];unfold Instr.fill;simp only[p2];rw[h2,awm (by rw[asj,a1];simp;omega),nA];unfold Instr.fill;simp only[p3];rw[h3,awm (by rw[asj,asj,a1];simp;omega),nA];unfold Instr.fill;simp only[p4];rw[h4,awm (by rw[asj,asj,asj,a1];simp;omega),nA];unfold Instr.fill;rfl
theorem qd (o:h.Ok)(m out)(n)(ax)(h1:m.cells=#[m])(h2:out.cells=#[out])(h3:ax.cells=#[ax]):prog.built 142 [(0,agg (hA h)),(1,m),(2,out),(3,int i64 n),(4,ax)]=some (qA ⟨h,m,out,n,ax⟩):=by obtain⟨it,hi,hz⟩:=lJ zQ;have z0:=jA;rw[FY (n:=37) hi underlying142 hz (ps:=[(0,37),(37,1),(38,1),(39,1),(40,1)]) al rfl rfl rfl rfl rfl (hA h) (kE o) m out (int i64 n) ax h1 h2 rfl h3 (by show(qA _).size=41;exact gq z0)];have c0:(Value.agg (qA ⟨h0,ay,ay,0,ay⟩)).cells=qA ⟨h0,ay,ay,0,ay⟩:=rfl;rw[c0,LC o _ z0];have l:=aF o;unfold qA;simp only[arp,arX _ _ (show(hL h).length<=37 by omega),arX _ _ (show(hL h).length<=38 by omega),arX _ _ (show(hL h).length<=39 by omega),arX _ _ (show(hL h).length<=40 by omega),l];rfl
end Mc
namespace Mc
variable[Inhabited Hc.bH]
open Mm Hh Hc
variable{s:Sh}
theorem vU (hw:Region.wanted o (yielded ops a.tmps)=true)(t)(parts)(ho:o.op=.build t parts)(cells)(hf:P.built t (parts.map fun(i,x)=>(i,a.eval x)).toList=some cells):YieldsIf P ops S o (agg cells) a:=
 .inl ⟨hw,fun w _=>by
  unfold execOp;simp only[ho,axl,axm w t _ _ hf,aw8];rfl⟩
structure Dq (w:World) (base:Nat) (d:Qv) (x:Wk):Prop where
 hh:d.h=x.h
 n:d.n=x.n
 mem:Own w Hc.mb d.m x.m
 out:w.ownsRow base 37 1 d.out x.out.length (x.out.map (Value.int .u32))
 ax:w.ownsRow base 175 2 d.ax x.ax.length (tX x.ax)
theorem au {base}(h:w.ownsRow base e sz v n xs):v.cells=#[v]/\v.oneCell'=true/\∃a c,v=slice a n c:=by
 rcases h.2 with⟨rfl,rfl⟩|⟨g,cap,_,rfl,_⟩
 ·exact⟨rfl,rfl,none,0,rfl⟩
 ·exact⟨rfl,rfl,_,cap,rfl⟩
theorem oH (w:World)(a b c):(((w.alloc a).alloc b).alloc c).drew.heap[w.heap.size+2]?=some c:=by
 have:=awk ((w.alloc a).alloc b) c;have e:((w.alloc a).alloc b).heap.size=w.heap.size+2:=aq;rw[e]at this;exact this
theorem jU (w)(a b c):Gr w (((w.alloc a).alloc b).alloc c).drew:=Gr.drew (Gr.alloc (Gr.alloc (Gr.alloc (Gr.refl _) _) _) _)
theorem jN (w:World)(A)(t:Nat)(b c):(((w.alloc (.cells A t)).alloc b).alloc c).drew.heap[w.heap.size]?=some (.cells A t (0,0)):=Hr.ae (Gr.drew (Gr.alloc (Gr.refl _) _)) (axb w _ _)
theorem yz (w:World)(a)(A)(t:Nat)(c):(((w.alloc a).alloc (.cells A t)).alloc c).drew.heap[w.heap.size+1]?=some (.cells A t (0,0)):=Hr.ae (Gr.drew (Gr.alloc (Gr.refl _) _)) (axs w _ _)
theorem Dj {base}(B:Bw ty rs w base g M gh hc O s)(F:Fit s c mn)(ni:mn≤4096)(T:TT w w.heap.size){n}(hk:k<c)(hc4:c≤4)(hn:n≤400)(ST:∀(x) (W),CX x mn->x.n<n->(x.n=0->x=w0 s k)->In W w.heap.size (w.heap.size+2) x.h x.m x.out x.ax->TT W w.heap.size->Calls prog 107 #[pointer (some ⟨w.heap.size+2,0,none⟩)] W fun e w'=>e=returned (tuple #[])/\In w' w.heap.size (w.heap.size+2) (eF x.h x.m).h (eF x.h x.m).m (x.out++(eF x.h x.m).out) (x.ax++(eF x.h x.m).ax)/\Fr w.heap.size W w'):Calls prog 83 #[pointer (some ⟨g,0,none⟩),agg #[int i64 k,int i64 n]] w fun e w'=>∃d,e=returned (agg (qA d))/\d.h.Ok/\Dq w' w.heap.size d (wk (w0 s k) n)/\Gr w w':=by
 have hl:k<s.hs.length:=by rw[F.len];exact hk
 have eh:s.hs[k]?=some (at' s k):=by unfold at';rw[arq hl];simp[List.getD,hl]
 have W0:=qV F hk;have kS:(at' s k).Ok:=W0.ok;have RG:=kH (B.row.range eh);obtain⟨ma,mc,rfl,_⟩:=B.mem.mem;have nC:=F.mem;have HOM:Hid (Own w Hc.mb (slice ma mn mc) s.m):=by unfold Hid;rw[<-nC];exact B.mem
 have Zn:=kH (arF B.hz.2 (arF B.bg (as6 B.lt)));have HB0:Hid (w.cell? ⟨g,0,none⟩=some (slice ma mn mc)):=by have:=B.c0;rw[nC]at this;exact this
 have HB1:Hid (w.cell? ⟨g,1,none⟩=some (slice (some ⟨gh,0,none⟩) c hc)):=by have:=B.c1;rw[F.len]at this;exact this
 have HT:=kH T;have Uy:=kH ST;have hgl:=B.lt;have LD:gh<w.heap.size:=by obtain⟨_,e⟩:=B.row.row;exact(arz.1 e).1
 have HX:Hid (w0 s k=⟨at' s k,s.m,[],[],0⟩):=rfl;have HW0:=kH W0;have qY:Hid ((hL (at' s k)).length=37):=aF kS;have yA:Hid (at' s k).Ok:=kS;generalize at' s k=h at *
 generalize w0 s k=x0 at *
 generalize s.m=l at *
 have PZ:Hid (prog.built 197 [(0,agg (hL h).toArray),(1,slice ma mn mc)]=some (cA ⟨h,slice ma mn mc,ay,ay⟩)):=vP yA _ rfl;have HZc:Hid ((cA ⟨h,slice ma mn mc,ay,ay⟩).size=40):=kF yA;have HOc:Hid ((cA ⟨h,slice ma mn mc,ay,ay⟩).all (·.oneCell')=true):=zR _ rfl rfl rfl;have HSG:Hid (∀W:World,Gr w W->W.heap[w.heap.size]?=some (.cells #[int i64 k,int i64 n] 45 (0,0))->W.cell? ⟨g,1,none⟩=some (slice (some ⟨gh,0,none⟩) c hc)/\W.cell? ⟨w.heap.size,0,none⟩=some (int i64 k)/\W.rangeAt gh (k*37) (hL h)/\W.cell? ⟨g,0,none⟩=some (slice ma mn mc)):=fun W G e=>
  ⟨(G.cell _ (by exact hgl)).trans HB1,awl _ _ _ _ _ _ e,fun j v hv=>(G.cell _ (by exact LD)).trans (RG j v hv),(G.cell _ (by exact hgl)).trans HB0⟩
 go_enter func83,ntmps83;go_wp2_with fail;refine awN (S:=fun W=>W.cell? ⟨g,1,none⟩=some (slice (some ⟨gh,0,none⟩) c hc)/\W.cell? ⟨w.heap.size,0,none⟩=some (int i64 k)/\W.rangeAt gh (k*37) (hL h)/\W.cell? ⟨g,0,none⟩=some (slice ma mn mc)) al ?_ (fun hHeld=>?_)
 ·exact HSG _ (br.alloc _).drew (Hr.ae (Gr.refl _).drew (axb w _ _))
 have bA:=kH hHeld;refine tK 0 (pointer (some ⟨g,0,none⟩)) bA ?_;refine tK 1 (pointer (some ⟨g,0,none⟩)) bA ?_;refine tK 2 (pointer (some ⟨g,0,none⟩)) bA ?_;refine tK 3 (pointer (some ⟨g,0,none⟩)) bA ?_;refine tK 4 (pointer (some ⟨g,1,none⟩)) bA ?_;refine tK 5 (slice (some ⟨gh,0,none⟩) c hc) bA ?_;refine tK 6 (pointer (some ⟨w.heap.size,0,none⟩)) bA ?_;refine tK 7 (int i64 k) bA ?_;refine tK 8 (pointer (some ⟨gh,k*37,none⟩)) bA ?_;refine aw1 (i:=9) (v:=agg (hL h).toArray) rfl al al al (fun _ _ _ h=>h) ?hy bA ?_
 case hy=>exact aw9 (by rfl) 43 (tmp 15) rfl gh (k*37) aw (hL h) _ (fun W hW=>hW.2.2.1) underlying43 rfl (by rw[qY.out];exact iH)
 simp only[Act.put,arp,art,ars];refine tK 10 (pointer (some ⟨g,0,none⟩)) bA ?_;refine tK 11 (pointer (some ⟨g,0,none⟩)) bA ?_;refine tK 12 (pointer (some ⟨g,0,none⟩)) bA ?_;refine tK 13 (pointer (some ⟨g,0,none⟩)) bA ?_;refine tK 14 (pointer (some ⟨g,0,none⟩)) bA ?_;refine tK 15 (slice ma mn mc) bA ?_;refine aw1 (i:=16) (v:=agg (cA ⟨h,slice ma mn mc,ay,ay⟩)) rfl al al al (fun _ _ _ h=>h) ?hy bA ?_
 case hy=>exact vU (by rfl) 197 _ rfl _ (by simpa[Act.eval]using PZ.out)
 simp only[Act.put,arp,art,ars];refine aww (rs:=[17]) al aq ?_;refine awp rfl (fun K hK=>?_) awu;go_simp;refine hK.out _ _ ?_ (fun _=>?_)
 ·exact HSG _ (jU _ _ _ _) (jN _ _ _ _ _)
 refine aww (rs:=[18]) al aq ?_;refine awp rfl (fun K hK=>?_) awu;refine iM rfl 197 (tmp 5) (tmp 23) rfl (w.heap.size+2) (cA ⟨h,slice ma mn mc,ay,ay⟩) aw aw 197 (cA ⟨h0,ay,ay,ay⟩) (oH _ _ _ _) (by rw[HZc.out];exact iC) (by rw[HZc.out];rfl) HOc ?_;refine hK.out _ _ ?_ (fun _=>?_)
 ·refine HSG _ (ag (jU _ _ _ _) ab _) ?_;rw[awI _ _ _ _ ab];exact jN _ _ _ _ _
 refine awT al ?_ _;have HIn:Hid (∀o1 o2:Obj,Inv ((((w.alloc o1).alloc o2).alloc (.cells (cA ⟨h0,ay,ay,ay⟩) 197)).drew.setRow (w.heap.size+2) (cA ⟨h,slice ma mn mc,ay,ay⟩)) w.heap.size (w.heap.size+2) ⟨h,slice ma mn mc,ay,ay⟩ l [] []):=fun o1 o2=>by
  refine⟨yA,ab,awJ _ _ _ _ _ (0,0) (oH _ _ _ _),HOM.to fun q ob f hq=>?_,Zn,awG _ _ _ _,awG _ _ _ _⟩;have:=(arz.1 hq).1;rw[awI _ _ _ _ ab];exact(jU w o1 o2 _).block q this
 have fM:Hid (∀o1 o2 o3:Obj,Gr w ((((w.alloc o1).alloc o2).alloc o3).drew.setRow (w.heap.size+2) (cA ⟨h,slice ma mn mc,ay,ay⟩))):=fun _ _ _=>ag (jU _ _ _ _) ab _
 go_wp2_with fail;go_loopw [6] (fun i wr=>∃x:Wk,i=int i64 x.n/\x.n<=n/\wk x0 n=wk x (n-x.n)/\CX x mn/\(x.n=0->x=x0)/\In wr w.heap.size (w.heap.size+2) x.h x.m x.out x.ax/\Fr w.heap.size w wr/\wr.heap[w.heap.size]?=some (.cells #[int i64 k,int i64 n] 45 (0,0))/\∃Z:Array Value,Z.size=41/\wr.heap[w.heap.size+1]?=some (.cells Z 142 (0,0))) (fun i _=>n-(intOf i).toNat)
 case atStart=>
  refine⟨x0,by rw[HX.out];rfl,by rw[HX.out];exact arQ _,by rw[HX.out];rfl,HW0,fun _=>rfl,?_,Fr.aJ (fM _ _ _) (arA _),?_,qA ⟨h0,ay,ay,0,ay⟩,gq (d:=⟨h0,ay,ay,0,ay⟩) jA,?_⟩
  ·rw[HX.out];exact(HIn _ _).tY
  ·rw[awI _ _ _ _ ab];exact jN _ _ _ _ _
  ·rw[awI _ _ _ _ ab];exact yz _ _ _ _ _
 case round=>
  obtain⟨x,rfl,hxn,hxw,ok,hx0,I,Fq,P4,Z,hZ,D4⟩:=hrel;have HX0:=kH hx0;have HI:=kH I;have HF:=kH Fq;have HPk:=kH P4;have HD4:=kH D4;have HZ:=kH hZ;have HXW:=kH hxw;have HWO:=kH ok;have k1:wr.cell? ⟨w.heap.size,1,none⟩=some (int i64 n):=awl _ _ _ _ _ _ P4;have Uj:wr.cell? ⟨w.heap.size+2,35,none⟩=some (int i64 x.h.state):=by
   obtain⟨cv,e,J⟩:=HI;rw[<-e];exact(J.hcell ab).trans (bu J.ok 3)
  by_cases hgo:x.n<n/\x.h.state=0
  ·obtain⟨hlt,hst⟩:=hgo;have afu:=kH hst;rw[hst]at Uj;have HST:=kH (Uy x wr HWO hlt HX0 HI (HT.of HF));go_wp2_with fail;refine axj HST ?_;rintro e w1 ⟨rfl,I1,F1⟩;have HI1:=kH I1;have mO:=kH (HF.trans F1);have Uz:=kH ((F1.keep _ _ _ _ HPk an an an).trans HPk);have HD1:=kH ((F1.keep _ _ _ _ HD4 an an an).trans HD4);have jy:Hid (wk x0 n=wk (IV x) (n-(IV x).n)):=by
    unfold Hid;rw[HXW.out,show n-x.n=(n-(x.n+1))+1 by omega,vM afu.out];rfl
   go_wp2_with fail;go_roundw
   case rel=>exact⟨IV x,by show Value.int i64 _=int i64 ((x.n+1:Nat):Int);go_num,by show x.n+1<=n;omega,jy,zN HWO afu,fun e=>absurd e (Nat.succ_ne_zero _),HI1,mO,Uz,Z,HZ,HD1⟩
   case measure=>simp[intOf];omega
  ·have HE:Hid (wk x0 n=x):=by
    unfold Hid;rw[HXW.out];by_cases h1:x.n<n
    ·exact zL (fun e=>hgo ⟨h1,e⟩) _
    ·rw[show n-x.n=0 by omega];rfl
   have hc2:¬x.n<n\/(x.n<n/\(x.h.state ==0)=false):=by
    by_cases h1:x.n<n
    ·exact .inr ⟨h1,by simpa using fun e=>hgo ⟨h1,e⟩⟩
    ·exact .inl h1
   obtain⟨cv,hcv,J⟩:=HI;have WB:=kH HWO.ok;have HLx:=kH (aF WB);have HRx:Hid (wr.rangeAt (w.heap.size+2) 0 (hL x.h)):=fun j v hv=>by
    have hj:j<37:=by have:=(arw.1 hv).1;rwa[HLx.out]at this
    rw[arH,J.hcell hj,hcv];exact hv
   have k37:=J.dQ 0;have k38:=J.dQ 1;have ND:=J.dQ 2;have HQ:Hid (Dq wr w.heap.size ⟨x.h,cv.m,cv.out,x.n,cv.ax⟩ x):=⟨rfl,rfl,J.mem,J.out,J.ax⟩;have HBd:Hid (prog.built 142 [(0,agg (hL x.h).toArray),(1,cv.m),(2,cv.out),(3,int i64 x.n),(4,cv.ax)]=some (qA ⟨x.h,cv.m,cv.out,x.n,cv.ax⟩)):=qd WB.out _ _ _ _ HQ.out.mem.cells.1 (au HQ.out.out).1 (au HQ.out.ax).1;have HOd:=kH (ny HQ.out.mem.cells.2 (au HQ.out.out).2.1 (au HQ.out.ax).2.1);have HSd:Hid ((qA ⟨x.h,cv.m,cv.out,x.n,cv.ax⟩).size=41):=gq WB;generalize hQA:qA ⟨x.h,cv.m,cv.out,x.n,cv.ax⟩=QA at *
   have HQA:=kH hQA;rcases hc2 with h1|⟨h1,h2⟩
   all_goals
    go_wp2_with (first
     |(refine awU rfl 43 _ rfl (w.heap.size+2) 0 rfl (hL x.h) _ ?r1 underlying43 rfl (by rw[HLx.out];exact iH) ?_;(case r1=>exact HRx))
     |(refine axt rfl 142 _ rfl _ rfl QA (by have:=HBd;simp[Act.eval,Act.put];exact this) ?_)
     |(refine awx rfl 142 _ _ rfl (w.heap.size+1) QA rfl rfl 142 Z ?r2 (by rw[HSd.out];exact iQ) (by rw[HSd.out,HZ.out]) HOd ?_;(case r2=>exact HD4)))
    refine awt (v:=agg QA) (awZ rfl _ _ _ _ _ (0,0) _ rfl (awJ _ _ _ _ _ (0,0) HD4) underlying142 rfl (by rw[HSd.out];exact iQ)) rfl ⟨⟨x.h,cv.m,cv.out,x.n,cv.ax⟩,by rw[HQA.out],WB,?_,?_⟩
    ·rw[HE.out];refine⟨rfl,rfl,?_,?_,?_⟩
     ·exact HQ.mem.to fun q ob f hq=>awI _ _ _ _ (aa hq HD4 an)
     ·exact aj HQ.out.out fun q ob f hq=>awI _ _ _ _ (aa hq HD4.out an)
     ·exact aj HQ.ax fun q ob f hq=>awI _ _ _ _ (aa hq HD4 an)
    ·exact ag HF.below (asA _) _
theorem Qk {base}(B:Bw ty rs w base g M gh hc O s)(F:Fit s c mn)(ni:mn<=4096)(T:TT w w.heap.size)(hk:k<c)(hc4:c<=4)(hn:n<=400):Calls prog 83 #[pointer (some ⟨g,0,none⟩),agg #[int i64 k,int i64 n]] w fun e w'=>∃d,e=returned (agg (qA d))/\d.h.Ok/\Dq w' w.heap.size d (wk (w0 s k) n)/\Gr w w' := 
 Dj B F ni T hk hc4 hn fun x W ok hx _ I T=>Qi I T (by rw[ok.mem];omega) (by have:=ok.ax;omega) (by have:=ok.out;omega)
theorem LF {base}(B:Bw ty rs w base g M gh hc O s)(F:Fit s c mn)(ni:mn<=4096)(T:TT w w.heap.size)(hk:k<c)(hc4:c<=4)(hf:¬Bk.kJ s.m (at' s k).pc=0):Calls prog 83 #[pointer (some ⟨g,0,none⟩),agg #[int i64 k,int i64 1]] w fun e w'=>∃d,e=returned (agg (qA d))/\d.h.Ok/\Dq w' w.heap.size d (wk (w0 s k) 1)/\Gr w w' := 
 Dj (n:=1) B F ni T hk hc4 ab fun x W ok hx h0 I T=>Lx I T (by rw[ok.mem];omega) (by rw[h0 ab];exact hf)
end Mc
namespace Mc
variable[Inhabited Hc.bH]
open Mm Hh Hc
def Dk (ls:List (Nat×Int)):List Value:=ls.flatMap fun q=>[int i64 q.1,int .u32 q.2]
theorem Ql (ls)(q):Dk (ls++[q])=Dk ls++[int i64 q.1,int .u32 q.2]:=by simp[Dk]
theorem zV:∀(ls:List (Nat×Int)) (i:Nat) (q:Nat×Int),ls[i]?=some q→(Dk ls)[i*2]?=some (int i64 q.1)∧(Dk ls)[i*2+1]?=some (int .u32 q.2)
 | [],i,q,h=>by simp at h
 |p::r,0,q,h=>by simp at h;subst h;exact⟨rfl,rfl⟩
 |p::r,i+1,q,h=>by
  have ih:=zV r i q (by simpa using h);have e:Dk (p::r)=[int i64 p.1,int .u32 p.2]++Dk r:=rfl;rw[e,arK aE,arK aE];simp only[arM,ar8];rw[show(i+1)*2-(0+1+1)=i*2 by omega,show(i+1)*2+1-(0+1+1)=i*2+1 by omega];exact ih
theorem Qm (a b):∀u∈[Value.int i64 a,Value.int .u32 b],u.oneCell'=true:=by intro u hu;simp only[arG,arN,awQ]at hu;rcases hu with rfl|rfl<;>rfl
theorem afw:(prog.info? 159).map (fun i=>(i.zero,i.size,i.bytes))=some (some (agg #[int i64 0,int .u32 0]),2,16):=al
theorem Dl {base}{s}(B:Bw ty rs w base g M gh hc O s)(hc4:s.hs.length<=4)(k:Nat)(p)(p0:0<=p.1)(p1:0<p.2)(p2:p.1+p.2<=4096):Calls prog 84 #[pointer (some ⟨g,0,none⟩),int i64 k,agg #[int .u32 p.1,int .u32 (Wd.lo (p.1+p.2))]] w fun e w'=>∃v,e=returned v/\w'.ownsRow w.heap.size 159 2 v (aX k p s.hs s.hs.length).length (Dk (aX k p s.hs s.hs.length))/\Gr w w':=by
 have HR:=kH B.row;have hgl:=B.lt;have LD:gh<w.heap.size:=by obtain⟨_,e⟩:=B.row.row;exact(arz.1 e).1
 have k1:=B.c1;have hlo:Wd.lo (p.1+p.2)=p.1+p.2:=by unfold Wd.lo;omega
 have Zo:Hid (∀h:Hv,h.Ok->∀W:World,Calls prog 108 #[int .u32 h.aW,agg #[int .u32 p.1,int .u32 (p.1+p.2)]] W fun e w'=>e=returned (.bool (near h.aW p.1 p.2))/\Gr W w'):=fun h o W=>by
  rw[FD o.zy o.BO p0 p1 p2 (Int.le_refl _)];exact Lj o.zy o.BO p0 ab W
 rw[hlo];obtain⟨f,q⟩:=p;simp only at *
 generalize hcc:s.hs.length=c at *
 have HC:=kH hcc;generalize s.hs=hs at *
 obtain⟨i0,hi,hz0,hz1,hz2⟩:=awS afw;generalize hT:f+q=t at *
 go_enter func84,ntmps84;go_wp2;go_loopw [17,7] (fun i v wr=>∃(j:Nat) (L:Value),j<=c/\i=int i64 j/\L=v/\wr.ownsRow (w.heap.size+1) 159 2 L (aX k (f,q) hs j).length (Dk (aX k (f,q) hs j))/\Gr (w.alloc (.cells #[int .u32 f,int .u32 t] 175)) wr) (fun i _ _=>c-(intOf i).toNat)
 case atStart=>exact⟨0,_,arQ _,rfl,rfl,awG _ _ _ _,Gr.refl _⟩
 case round=>
  obtain⟨j,L,hj,rfl,rfl,hown,G⟩:=hrel;have HO:=kH hown;have HG:Hid (Gr (w.alloc (.cells #[int .u32 f,int .u32 t] 175)) wr):=G;by_cases hlt:j<c
  ·obtain⟨h,hh⟩:∃h,hs[j]?=some h:=⟨_,arq (by rw[HC.out];exact hlt)⟩;have hgd:hs.getD j hN=h:=by simp[List.getD,hh]
   have kS:=HR.ok h (arE hh);have hgw:=br.trans HG;have RG:=kH ((HR.of hgw).range hh);have qY:=kH (aF kS);have rO:Hid ((hL h).toArray.size=37):=by unfold Hid;simp[qY.out]
   have FQ:=kH (rW h);have HLU:Hid (aX k (f,q) hs (j+1)=aX k (f,q) hs j++(if loses k (f,q) j h=true then[(j,h.aW)]else[])):=by unfold Hid;rw[aX,hgd]
   have hlu:=oD k (f,q) hs j;have HME:=kH (Zo h kS);have PX:Hid (∀Y:Array Value,Gr wr ((wr.alloc (.cells Y 43)).setRow wr.heap.size (hL h).toArray)):=fun Y=>ag br (arA _) _
   have I5:Hid (∀Y:Array Value,((wr.alloc (.cells Y 43)).setRow wr.heap.size (hL h).toArray).heap[wr.heap.size]?=some (.cells (hL h).toArray 43 (0,0))):=fun Y=>awJ _ _ _ _ _ (0,0) (awk wr _)
   have k33:∀Y:Array Value,((wr.alloc (.cells Y 43)).setRow wr.heap.size (hL h).toArray).cell? ⟨wr.heap.size,33,none⟩=some (.bool h.held):=fun Y=>(awl _ _ _ _ _ _ (I5 Y)).trans (by rw[arB];exact bu kS 1)
   have k34:∀Y:Array Value,((wr.alloc (.cells Y 43)).setRow wr.heap.size (hL h).toArray).cell? ⟨wr.heap.size,34,none⟩=some (int .u32 h.aW):=fun Y=>(awl _ _ _ _ _ _ (I5 Y)).trans (by rw[arB];exact bu kS 2)
   have HRg:=kH (Hr.ae HG (awk w _));have r0:∀Y:Array Value,((wr.alloc (.cells Y 43)).setRow wr.heap.size (hL h).toArray).cell? ⟨w.heap.size,0,none⟩=some (int .u32 f):=fun Y=>awl _ _ _ _ _ _ (Hr.ae (PX Y) HRg)
   have r1:∀Y:Array Value,((wr.alloc (.cells Y 43)).setRow wr.heap.size (hL h).toArray).cell? ⟨w.heap.size,1,none⟩=some (int .u32 t):=fun Y=>awl _ _ _ _ _ _ (Hr.ae (PX Y) HRg)
   have hwr:w.heap.size+1<=wr.heap.size:=by have:=HG.size;simpa using this
   have HB0:=kH kS.zy;generalize aX k (f,q) hs j=U at *
   generalize hhd:h.held=bh at *
   generalize hat:h.aW=ah at *
   have UA:Hid (loses k (f,q) j h=(decide (j≠k) && (bh && near ah f q))):=by unfold Hid loses;rw[hhd,hat]
   by_cases hjk:j=k
   ·have hne:((j:Int) !=(k:Int))=false:=by simp[hjk]
    have HN:Hid (aX k (f,q) hs (j+1)=U):=by unfold Hid;rw[HLU.out,UA.out,awq (by simp[hjk])];simp
    clear hjk HLU UA
    go_wp2_with (first
      |(refine awU rfl 43 _ rfl gh (j*37) rfl (hL h) _ ?r1 underlying43 rfl (by rw[qY.out];exact iH) ?_;(case r1=>exact RG))
      |(refine awx rfl 43 _ _ rfl wr.heap.size (hL h).toArray rfl rfl 43 _ (awk wr _) (by rw[rO.out];exact iH) (by rw[rO.out];rfl) FQ ?_))
    go_roundw
    case rel=>exact⟨j+1,L,ab,by go_num,rfl,by rw[HN.out];exact aD HO (PX _),HG.trans (PX _)⟩
    case measure=>simp[intOf];omega
   ·have hne:((j:Int) !=(k:Int))=true:=by simp;omega
    cases bh with
    |false=>
     have HN:Hid (aX k (f,q) hs (j+1)=U):=by unfold Hid;rw[HLU.out,UA.out];simp
     go_wp2_with (first
      |(refine awU rfl 43 _ rfl gh (j*37) rfl (hL h) _ ?r1 underlying43 rfl (by rw[qY.out];exact iH) ?_;(case r1=>exact RG))
      |(refine awx rfl 43 _ _ rfl wr.heap.size (hL h).toArray rfl rfl 43 _ (awk wr _) (by rw[rO.out];exact iH) (by rw[rO.out];rfl) FQ ?_))
     go_roundw
     case rel=>exact⟨j+1,L,ab,by go_num,rfl,by rw[HN.out];exact aD HO (PX _),HG.trans (PX _)⟩
     case measure=>simp[intOf];omega
    |true=>
     cases hnr:near ah f q with
     |false=>
      have LG:Hid (∀W:World,Calls prog 108 #[int .u32 ah,agg #[int .u32 f,int .u32 t]] W fun e w'=>e=returned (.bool false)/\Gr W w'):=fun W=>by have:=HME W;rwa[hnr]at this
      have HN:Hid (aX k (f,q) hs (j+1)=U):=by unfold Hid;rw[HLU.out,UA.out,hnr];simp
      go_wp2_with (first
      |(refine awU rfl 43 _ rfl gh (j*37) rfl (hL h) _ ?r1 underlying43 rfl (by rw[qY.out];exact iH) ?_;(case r1=>exact RG))
      |(refine awx rfl 43 _ _ rfl wr.heap.size (hL h).toArray rfl rfl 43 _ (awk wr _) (by rw[rO.out];exact iH) (by rw[rO.out];rfl) FQ ?_))
      refine(LG _).mono ?_;rintro e w1 ⟨rfl,G1⟩;have aU:=kH ((PX _).trans G1);go_wp2_with fail;go_roundw
      case rel=>exact⟨j+1,L,ab,by go_num,rfl,by rw[HN.out];exact aD HO aU,HG.trans aU⟩
      case measure=>simp[intOf];omega
     |true=>
      have LG:Hid (∀W:World,Calls prog 108 #[int .u32 ah,agg #[int .u32 f,int .u32 t]] W fun e w'=>e=returned (.bool true)/\Gr W w'):=fun W=>by have:=HME W;rwa[hnr]at this
      have HN:Hid (aX k (f,q) hs (j+1)=U++[(j,ah)]):=by unfold Hid;rw[HLU.out,UA.out,hnr,awC (show j≠k from hjk)];simp
      go_wp2_with (first
      |(refine awU rfl 43 _ rfl gh (j*37) rfl (hL h) _ ?r1 underlying43 rfl (by rw[qY.out];exact iH) ?_;(case r1=>exact RG))
      |(refine awx rfl 43 _ _ rfl wr.heap.size (hL h).toArray rfl rfl 43 _ (awk wr _) (by rw[rO.out];exact iH) (by rw[rO.out];rfl) FQ ?_))
      refine(LG _).mono ?_;rintro e w1 ⟨rfl,G1⟩;have aU:=kH ((PX _).trans G1);have q34:=(G1.cell _ aq).trans (k34 _);have aiQ:wr.heap.size<w1.heap.size:=by have:=G1.size;simp at this;omega
      go_wp2_with (at_builtin;refine awW _ rfl (tmp 35) (tmp 40) 119 rfl (w.heap.size+1) 159 i0 (agg #[int i64 0,int .u32 0]) 2 16 underlying119 hi hz0 hz1 hz2 rfl an L U.length (Dk U) rfl (aD HO (aU.alloc _)) ⟨w1.heap.size,0,none⟩ 1 1 [int i64 j,int .u32 ah] rfl rfl (dX aq aq) (Qm _ _) bj ab aE ?_;intro v' w2 hown hgrow _;have kT:Hid (w2.ownsRow (w.heap.size+1) 159 2 v' (U.length+1) (Dk U++[int i64 j,int .u32 ah])):=hown;have HG2:Hid (Gr (w.alloc (.cells #[int .u32 f,int .u32 t] 175)) w2):=(((HG.trans aU).alloc _).grown hgrow (fun b e=>by have:=(HO.lt b e).1;simp;omega));clear hown hgrow);go_roundw
      case rel=>exact⟨j+1,v',ab,by go_num,rfl,by rw[HN.out,Ql,ary];exact kT,HG2⟩
      case measure=>simp[intOf];omega
  ·have ej:j=c:=ab;go_wp2_with fail;go_ret;refine⟨L,rfl,?_,br.trans HG⟩;have:=HO;rw[ej]at this;refine⟨this.1,?_⟩;rcases this.2 with h|⟨g',cap,cur,hv,hb,r⟩
   ·exact .inl h
   ·exact .inr ⟨g',cap,cur,hv,ab,r⟩
end Mc
namespace Mc
variable[Inhabited Hc.bH]
open Mm Hh Hc
variable{ty:Nat}{rs:List Value}
variable{o:Array Value}{hs:List Hv}{s:Sh}
def Src (w:World) (vx:Value) (m sz:Nat) (news:List Value):Prop:=(vx=slice none 0 0/\m=0/\news=[])\/∃ad c,vx=slice (some ad) m c/\news.length=m*sz/\∀j u,news[j]?=some u->w.cell? (ad.add j)=some u
theorem Src.own {base}(h:w.ownsRow base e sz v n xs):Src w v n sz xs:=by
 obtain⟨hl,h⟩:=h;rcases h with⟨rfl,rfl⟩|⟨g,cap,cur,rfl,_,hg,_,_,_,ht⟩
 ·exact .inl ⟨rfl,rfl,asa (by simpa using hl)⟩
 ·refine .inr ⟨_,cap,rfl,hl,fun j u hj=>?_⟩;rw[cK,arH,cr hg];rw[<-ht]at hj;rw[ar9]at hj;split at hj
  ·simpa using hj
  ·cases hj
section
variable{base m:Nat}{i:TypeInfo}{t:TypeId}
theorem nD (ty)(h1:P.underlying t=some (.slice e))(h2:P.info? e=some i)(h3:i.zero=some z)(h4:i.size=size)(h5:i.bytes=bytes)(h6:z.cells.size=size)(h7:0<size)(hown:w.ownsRow base e size v n olds)(hsrc:Src w vx m size news)(h1c:∀u∈news,u.oneCell'=true)(b1:n+m<=maxLen)(b2:(n+m)*bytes<=140737488355328)(hbase:base<=w.heap.size):∃v' w',(Builtin.append_ #[t,t] ty #[v,vx]).run P w=.ok v' w'/\w'.ownsRow base e size v' (n+m) (olds++news)/\w.grownBy w' v.ownBlock:=by
 rcases hsrc with⟨rfl,rfl,rfl⟩|⟨ad,c,rfl,hl,hc⟩
 ·exact⟨v,w,run_append_owned_none w base t ty e i size h1 h2 v n olds hown,by simpa using hown,⟨rfl,rfl,rfl,arA _,fun _ _ _=>rfl⟩⟩
 ·obtain⟨v',w',hrun,r1,r2,_⟩:=axp (P:=P) w base t ty e i z size bytes h1 h2 h3 h4 h5 h6 h7 v n olds hown ad m c news hl hc h1c b1 b2 hbase;exact⟨v',w',hrun,r1,r2⟩
theorem uz {o}{Q}(hg:o.guard=none)(s x)(hop:o.op=Op.call { callee:=Callee.builtin Builtin.append,args:=#[s,x],argTypes:=#[t,t] })(h1:P.underlying t=some (.slice e))(h2:P.info? e=some i)(h3:i.zero=some z)(h4:i.size=size)(h5:i.bytes=bytes)(h6:z.cells.size=size)(h7:0<size)(hs:a.eval s=v)(hx:a.eval x=vx)(hown:w.ownsRow base e size v n olds)(hsrc:Src w vx m size news)(h1c:∀u∈news,u.oneCell'=true)(b1:n+m<=maxLen)(b2:(n+m)*bytes<=140737488355328)(hbase:base<=w.heap.size)(hK:∀v' w',w'.ownsRow base e size v' (n+m) (olds++news)->w.grownBy w' v.ownBlock->K (a.put o.dst v') w'):if Region.wanted o (yielded ops a.tmps)=true then Oper.wp P o a w K Q else E:=by
 have hw:Region.wanted o (yielded ops a.tmps)=true:=by simp[Region.wanted,hg]
 rw[awn hw];obtain⟨v',w',hrun,r1,r2⟩:=nD (P:=P) o.type h1 h2 h3 h4 h5 h6 h7 hown hsrc h1c b1 b2 hbase;unfold Oper.wp;simp[execOp,hop,resolve,invoke,builtin,hs,hx,hrun,Result.andThen];exact hK v' w' r1 r2
theorem qZ {rest}{o}{Q}(hg:o.guard=none)(s x)(hop:o.op=Op.call { callee:=Callee.builtin Builtin.append,args:=#[s,x],argTypes:=#[t,t] })(h1:P.underlying t=some (.slice e))(h2:P.info? e=some i)(h3:i.zero=some z)(h4:i.size=size)(h5:i.bytes=bytes)(h6:z.cells.size=size)(h7:0<size)(hs:a.eval s=v)(hx:a.eval x=vx)(hown:w.ownsRow base e size v n olds)(hsrc:Src w vx m size news)(h1c:∀u∈news,u.oneCell'=true)(b1:n+m<=maxLen)(b2:(n+m)*bytes<=140737488355328)(hbase:base<=w.heap.size)(hK:∀v' w',w'.ownsRow base e size v' (n+m) (olds++news)->w.grownBy w' v.ownBlock->wpList P ops Q rest (a.put o.dst v') w'):wpList P ops Q (o::rest) a w:=by
 refine axo hg fun K hk=>?_
 obtain⟨v',w',hrun,r1,r2⟩:=nD (P:=P) o.type h1 h2 h3 h4 h5 h6 h7 hown hsrc h1c b1 b2 hbase;unfold Oper.wp;simp[execOp,hop,resolve,invoke,builtin,hs,hx,hrun,Result.andThen];exact hk _ _ (hK v' w' r1 r2)
end
theorem vV {o}{Q}(hg:o.guard=none)(ty)(x y)(ho:o.op=.store ty x y)(b j)(cells)(hx:a.eval x=pointer (some ⟨b,j,none⟩))(hy:a.eval y=agg cells)(ht:w.there b j cells.size)(hi:(P.info? ty).map (·.size)=some cells.size)(h1:cells.all (·.oneCell')=true)(h:K (a.put o.dst undef) (w.setCells b j cells.toList)):if Region.wanted o (yielded ops a.tmps)=true then Oper.wp P o a w K Q else E:=by rw[awn (by simp[Region.wanted,hg])];exact wp_store_mid ty x y ho b j cells hx hy ht hi h1 h
theorem nE {md}{Q}{i}{o}(hr:Region.ready md ops listed=[i])(hoi:ops[i]?=some o)(hg:o.guard=none)(ty)(x y)(ho:o.op=.store ty x y)(b j)(cells)(hx:a.eval x=pointer (some ⟨b,j,none⟩))(hy:a.eval y=agg cells)(ht:w.there b j cells.size)(hi:(P.info? ty).map (·.size)=some cells.size)(h1:cells.all (·.oneCell')=true)(hS:S (w.setCells b j cells.toList))(h:wpAnyH P md ops Q S fuel (listed.setIfInBounds i true) (a.put o.dst undef) (w.setCells b j cells.toList)):wpAnyH P md ops Q S (fuel+1) listed a w:=aww hr aq (awp hoi (fun K hK=>vV hg ty x y ho b j cells hx hy ht hi h1 (hK.out _ _ hS fun _=>h)) awu)
theorem LH (os:List Int):∀u∈os.map (Value.int .u32),u.oneCell'=true:=by intro u hu;obtain⟨b,_,rfl⟩:=arY.1 hu;rfl
theorem afy:(prog.info? 37).map (fun i=>(i.zero,i.size,i.bytes))=some (some (Value.int .u32 0),1,4):=al
theorem iZ {w}(R:bY w gh hs)(q:Ch gh w w')(ht:t≠43)(hk:w.heap[k]?=some (.cells o t f)):w'.heap[k]?=w.heap[k]?:=by obtain⟨rest,e⟩:=R.row;exact q.block k (gs hk).1 (fun h=>aa hk e ht (by injection h))
theorem Bw.ch {base}(B:Bw ty rs w base g M gh hc O s)(q:Ch gh w w')(R:bY w' gh hs)(hl:hs.length=s.hs.length)(z:Zh w' gh hc):Bw ty rs w' base g M gh hc O ⟨hs,s.m,s.out,s.steps⟩:=⟨B.t1,B.t2,B.t3,B.bg,by show w'.heap[g]?=some (.cells (M::slice (some ⟨gh,0,none⟩) hs.length hc::O::int i64 s.steps::rs).toArray _ _);rw[hl];exact(iZ B.row q B.t3 B.blk).trans B.blk,B.mem.to fun k o f hk=>iZ B.row q an hk,B.bh,R,aj B.out fun k o f hk=>iZ B.row q an hk,⟨z,B.hz.2⟩⟩
theorem Dq.ch {d}{x}(D:Dq w b d x)(R:bY w gh hs)(q:Ch gh w w'):Dq w' b d x:=⟨D.hh,D.n,D.mem.to fun k o f hk=>iZ R q an hk,aj D.out fun k o f hk=>iZ R q an hk,aj D.ax fun k o f hk=>iZ R q an hk⟩
theorem Ch.aJ (G:Gr w w'):Ch g w w':=(Ch.refl g w).gr G
theorem Dq.gr {w w'}{b}{d}{x}(D:Dq w b d x)(G:Gr w w'):Dq w' b d x:=⟨D.hh,D.n,iO D.mem G,aD D.out G,aD D.ax G⟩
theorem Ch.setCells {g:Nat}{a w:World}(h:Ch g a w):∀(vs:List Value) (o:Nat),Ch g a (w.setCells g o vs)
 | [],o=>h
 |v::r,o=>by rw[World.setCells];exact Ch.setCells (h.setCell o v) r (o+1)
theorem Bw.fz {base}(B:Bw ty rs w base g M gh hc O s)(i):w.frozen? ⟨g,i,none⟩=false:=iA B.blk
theorem Bw.az {base}(B:Bw ty rs w base g M gh hc O s):base<=w.heap.size:=arF B.bg (as6 (gs B.blk).1)
theorem dM {base}(B:Bw ty rs w base g M gh hc O s)(i)(v)(ht:t≠ty)(hk:w.heap[k]?=some (.cells o t f)):(w.setCell ⟨g,i,none⟩ v).heap[k]?=w.heap[k]?:=hso (by exact aa hk B.blk ht)
theorem bY.to {w'}(r:bY w g hs)(h:∀(k:Nat) (o) (f),w.heap[k]?=some (.cells o 43 f)->w'.heap[k]?=w.heap[k]?):bY w' g hs:=by obtain⟨rest,e⟩:=r.row;exact⟨r.ok,rest,(h _ _ _ e).trans e⟩
theorem Bw.aiR {base}(B:Bw ty rs w base g M gh hc O s)(h:Own w Hc.mb M' m'):Bw ty rs (w.setCell ⟨g,0,none⟩ M') base g M' gh hc O ⟨s.hs,m',s.out,s.steps⟩:=⟨B.t1,B.t2,B.t3,B.bg,by rw[hss B.blk];simp,h.to fun k o f hk=>dM B _ _ B.t1.symm hk,B.bh,B.row.to fun k o f hk=>dM B _ _ B.t3.symm hk,aj B.out fun k o f hk=>dM B _ _ B.t2.symm hk,⟨B.hz.1.to fun k o f hk=>dM B _ _ B.t3.symm hk,B.hz.2⟩⟩
theorem Bw.aiS {base}(B:Bw ty rs w base g M gh hc O s)(n':Nat):Bw ty rs (w.setCell ⟨g,3,none⟩ (int i64 n')) base g M gh hc O ⟨s.hs,s.m,s.out,n'⟩:=⟨B.t1,B.t2,B.t3,B.bg,by rw[hss B.blk];simp,B.mem.to fun k o f hk=>dM B _ _ B.t1.symm hk,B.bh,B.row.to fun k o f hk=>dM B _ _ B.t3.symm hk,aj B.out fun k o f hk=>dM B _ _ B.t2.symm hk,⟨B.hz.1.to fun k o f hk=>dM B _ _ B.t3.symm hk,B.hz.2⟩⟩
theorem Bw.vW {base}(B:Bw ty rs w base g M gh hc O s)(i)(v):Bw ty (rs.set i v) (w.setCell ⟨g,4+i,none⟩ v) base g M gh hc O s:=⟨B.t1,B.t2,B.t3,B.bg,by rw[hss B.blk,arp,Nat.add_comm];rfl,B.mem.to fun k o f hk=>dM B _ _ B.t1.symm hk,B.bh,B.row.to fun k o f hk=>dM B _ _ B.t3.symm hk,aj B.out fun k o f hk=>dM B _ _ B.t2.symm hk,⟨B.hz.1.to fun k o f hk=>dM B _ _ B.t3.symm hk,B.hz.2⟩⟩
structure Fe (ty:Nat) (base:Nat) (w w':World):Prop where
 below:Below base w w'
 keep:∀(k:Nat) (o:Obj),w.heap[k]?=some o->(∀q f,¬o=.cells q ty f)->(∀q f,¬o=.cells q 43 f)->(∀q f,¬o=.cells q 37 f)->w'.heap[k]?=some o
theorem Fe.refl (base)(w):Fe ty base w w:=⟨awX _ _,fun _ _ h _ _ _=>h⟩
theorem Fe.trans {base}{a b c}(h:Fe ty base a b)(k:Fe ty base b c):Fe ty base a c:=⟨h.below.trans k.below,fun i o e t1 t2 t3=>k.keep i o (h.keep i o e t1 t2 t3) t1 t2 t3⟩
theorem Fe.aJ {base}(G:Gr w w')(hb:base<=w.heap.size):Fe ty base w w':=⟨awH G hb,fun i o e _ _ _=>(G.block i (gs e).1).trans e⟩
theorem Fe.drew {base}{a w}(h:Fe ty base a w):Fe ty base a w.drew:=⟨h.below.drew,h.keep⟩
theorem Fe.ch {base}(R:bY w gh hs)(q:Ch gh w w')(hg:base<=gh)(hb:base<=w.heap.size):Fe ty base w w':=⟨q.below hg hb,fun i o e _ t2 _=>by obtain⟨rest,e2⟩:=R.row;refine(q.block i (gs e).1 (fun h=>?_)).trans e;injection h with h;subst h;rw[e2]at e;injection e with e;exact t2 _ _ e.symm⟩
theorem Fe.setCell {base}{a w}{g}{Y}{f}(h:Fe ty base a w)(hy:w.heap[g]?=some (.cells Y ty f))(hg:base<=g)(i)(v):Fe ty base a (w.setCell ⟨g,i,none⟩ v):=⟨axc h.below (by exact hg) _,fun k o e t1 t2 t3=>by
 have e2:=h.keep k o e t1 t2 t3;rw[hso (by
  show k≠g
  intro ek;subst ek;rw[hy]at e2;injection e2 with e2;exact t1 _ _ e2.symm)]
 exact e2⟩
theorem Fe.grown {base}{w w'}{O}{n}{xs}(hO:w.ownsRow base 37 1 O n xs)(q:w.grownBy w' O.ownBlock)(hb:base<=w.heap.size):Fe ty base w w':=⟨(awX base w).grown q hb fun k e=>(hO.lt k e).1,fun k o e _ _ t3=>(q.block k (gs e).1 (fun h=>by
  rcases hO.2 with⟨h0,_⟩|⟨g',cap,cur,hv,_,hg,_⟩
  ·rw[h0]at h;cases h
  ·rw[hv]at h;injection h with h;subst h;rw[hg]at e;injection e with e;exact t3 _ _ e.symm)).trans e⟩
theorem Fe.cells {base}{w w'}(h:Fe ty base w w'){k:Nat}{q}{t:Nat}{f}(e:w.heap[k]?=some (.cells q t f))(t1:t≠ty)(t2:t≠43)(t3:t≠37):w'.heap[k]?=w.heap[k]?:=(h.keep k _ e (fun _ _ c=>t1 (by injection c)) (fun _ _ c=>t2 (by injection c)) (fun _ _ c=>t3 (by injection c))).trans e.symm
theorem eY {base}(hO:w.ownsRow base e sz O n xs)(q:w.grownBy w' O.ownBlock)(ht:t≠e)(hk:w.heap[k]?=some (.cells o t f)):w'.heap[k]?=w.heap[k]?:=
 q.block k (gs hk).1 (fun h=>by
  rcases hO.2 with⟨h0,_⟩|⟨g',cap,cur,hv,_,hg,_⟩
  ·rw[h0]at h;cases h
  ·rw[hv]at h;injection h with h;exact aa hk hg ht h)
theorem Bw.grown {w w'}{base g gh hc}{M O}{s}(B:Bw ty rs w base g M gh hc O s)(q:w.grownBy w' O.ownBlock){v}{os}(ho:w'.ownsRow base 37 1 v os.length (os.map (Value.int .u32))):w'.cell? ⟨g,2,none⟩=some O/\w'.frozen? ⟨g,2,none⟩=false/\Bw ty rs (w'.setCell ⟨g,2,none⟩ v) base g M gh hc v ⟨s.hs,s.m,os,s.steps⟩/\Fe ty base w (w'.setCell ⟨g,2,none⟩ v):=by
 have st:∀{t:Nat},t≠37->∀{k:Nat} {o:Array Value} {f:Nat×Nat},w.heap[k]?=some (.cells o t f)->w'.heap[k]?=w.heap[k]?:=fun ht _ _ _ hk=>eY B.out q ht hk
 have hb:=(st B.t2 B.blk).trans B.blk;have ne:∀{t:Nat},t≠ty->∀{k:Nat} {o:Array Value} {f:Nat×Nat},w'.heap[k]?=some (.cells o t f)->(w'.setCell ⟨g,2,none⟩ v).heap[k]?=w'.heap[k]?:=fun ht _ _ _ hk=>hso (by exact aa hk hb ht)
 have two:∀{t:Nat},t≠ty->t≠37->∀{k:Nat} {o:Array Value} {f:Nat×Nat},w.heap[k]?=some (.cells o t f)->(w'.setCell ⟨g,2,none⟩ v).heap[k]?=w.heap[k]?:=fun h1 h2 _ _ _ hk=>by
  have e:=st h2 hk;exact(ne h1 (e.trans hk)).trans e
 refine⟨(cr hb).trans aq,iA hb,⟨B.t1,B.t2,B.t3,B.bg,by rw[hss hb];simp,B.mem.to fun k o f hk=>two B.t1.symm an hk,B.bh,B.row.to fun k o f hk=>two B.t3.symm an hk,aj ho fun k o f hk=>ne B.t2.symm hk,⟨B.hz.1.to fun k o f hk=>two B.t3.symm an hk,B.hz.2⟩⟩,?_⟩;exact Fe.setCell (Fe.grown B.out q B.az) hb B.bg _ _
end Mc
namespace Mi
variable[Inhabited Hc.bH]
open Mm Hh Hc
variable{b:Bool}{α:Type}{i:Mv}{x:Int}
structure Cs (w:World) (ao:Option Addr) (n:Nat) (code:List Mv):Prop where
 len:code.length=n
 wn:∀i∈code,W i.n
 wo:∀i∈code, -9223372036854775808<=i.op/\i.op<=9223372036854775807
 spot:0<n->∃b o,ao=some ⟨b,o,none⟩/\b<w.heap.size/\∀j i,code[j]?=some i->w.cell? ⟨b,o+j*5,none⟩=some (int i64 i.op)/\w.cell? ⟨b,o+j*5+1,none⟩=some (int i64 i.d)/\w.cell? ⟨b,o+j*5+2,none⟩=some (int i64 i.a)/\w.cell? ⟨b,o+j*5+3,none⟩=some (int i64 i.b)/\w.cell? ⟨b,o+j*5+4,none⟩=some (int .u32 i.n)
theorem Cs.of {code}(h:Cs w ao n code)(g:Gr w w'):Cs w' ao n code:=
 ⟨h.len,h.wn,h.wo,fun hn=>by
  obtain⟨b,o,e,hb,hc⟩:=h.spot hn;refine⟨b,o,e,arD hb g.size,fun j i hj=>?_⟩;obtain⟨h0,h1,h2,h3,h4⟩:=hc j i hj;exact⟨(g.cell _ (by exact hb)).trans h0,(g.cell _ (by exact hb)).trans h1,(g.cell _ (by exact hb)).trans h2,(g.cell _ (by exact hb)).trans h3,(g.cell _ (by exact hb)).trans h4⟩⟩
theorem nG {a}(h:a=b):Ending.returned (.bool a)=returned (.bool b):=by rw[h]
theorem LJ (f:α->Bool)(l:List α)(k)(x:α)(h:l[k]?=some x):(l.take (k+1)).all f=((l.take k).all f && f x):=by rw[arW,h];simp
theorem zW {f:α->Bool}{l:List α}{x:α}(h:l[k]?=some x)(hx:f x=false):l.all f=false:=by rw[List.all_eq_false];exact⟨x,arE h,by simp[hx]⟩
theorem WC (h:named i.op<0):eT i=false:=by unfold eT;rw[awq ab];rfl
end Mi
namespace Ts
variable[Inhabited Hc.bH]
open Mm Hc Mi Bk
open Hh
variable{code:List Mv}
theorem sM {base}(h:w.ownsRow base e sz v n xs):∃a c,v=slice a n c:=by
 rcases h.2 with⟨rfl,rfl⟩|⟨g,cap,_,rfl,_⟩
 ·exact⟨none,0,rfl⟩
 ·exact⟨_,cap,rfl⟩
theorem Qn {base}(h:w.ownsRow base e sz v n xs)(hn:0<n):∃g c,v=slice (some ⟨g,0,none⟩) n c/\g<w.heap.size/\∀j u,xs[j]?=some u->w.cell? ⟨g,j,none⟩=some u:=by obtain⟨g,c,rfl⟩:=dA h hn;refine⟨g,c,rfl,(h.lt g rfl).2,fun j u hu=>?_⟩;have:=h.cells (g:=g) rfl j u hu;rwa[cK,arH]at this
def Sr (w:World) (vx:Value) (m sz:Nat) (news:List Value):Prop:=(vx=slice none 0 0/\m=0/\news=[])\/∃ad c,vx=slice (some ad) m c/\news.length=m*sz/\∀j u,news[j]?=some u->w.cell? (ad.add j)=some u
theorem Sr.gr {w w'}{vx}{m sz}{news}(h:Sr w vx m sz news)(G:Gr w w'):Sr w' vx m sz news:=by
 rcases h with h|⟨ad,c,e,hl,hc⟩
 ·exact .inl h
 ·exact .inr ⟨ad,c,e,hl,fun j u hj=>(G.cell _ (awo w _ (hc j u hj))).trans (hc j u hj)⟩
theorem Sr.new (w:World)(cs)(t n c:Nat)(h:cs.size=n*5):Sr (w.alloc (.cells cs t)) (slice (some ⟨w.heap.size,0,none⟩) n c) n 5 cs.toList:=.inr ⟨_,_,rfl,by simpa using h,fun j u hj=>by rw[cK,arH,cr (awk w _)];simpa using hj⟩
section
variable{base m:Nat}{i:TypeInfo}{t:TypeId}
theorem lN {rest}{Q}(hg:o.guard=none)(s x)(hop:o.op=Op.call { callee:=Callee.builtin Builtin.append,args:=#[s,x],argTypes:=#[t,t] })(h1:P.underlying t=some (.slice e))(h2:P.info? e=some i)(h3:i.zero=some z)(h4:i.size=size)(h5:i.bytes=bytes)(h6:z.cells.size=size)(h7:0<size)(hs:a.eval s=v)(hx:a.eval x=vx)(hown:w.ownsRow base e size v n olds)(hsrc:Sr w vx m size news)(h1c:∀u∈news,u.oneCell'=true)(b1:n+m<=maxLen)(b2:(n+m)*bytes<=140737488355328)(hbase:base<=w.heap.size)(hK:∀v' w',w'.ownsRow base e size v' (n+m) (olds++news)->w.grownBy w' v.ownBlock->wpList P ops Q rest (a.put o.dst v') w'):wpList P ops Q (o::rest) a w:=by
 refine axo hg fun K hk=>?_
 have hr:∃v' w',(Builtin.append_ #[t,t] o.type #[v,vx]).run P w=.ok v' w'/\w'.ownsRow base e size v' (n+m) (olds++news)/\w.grownBy w' v.ownBlock:=by
  rcases hsrc with⟨rfl,rfl,rfl⟩|⟨ad,c,rfl,hl,hc⟩
  ·exact⟨v,w,run_append_owned_none w base t o.type e i size h1 h2 v n olds hown,by simpa using hown,⟨rfl,rfl,rfl,arA _,fun _ _ _=>rfl⟩⟩
  ·obtain⟨v',w',hrun,r1,r2,_⟩:=axp (P:=P) w base t o.type e i z size bytes h1 h2 h3 h4 h5 h6 h7 v n olds hown ad m c news hl hc h1c b1 b2 hbase;exact⟨v',w',hrun,r1,r2⟩
 obtain⟨v',w',hrun,r1,r2⟩:=hr;unfold Oper.wp;simp[execOp,hop,resolve,invoke,builtin,hs,hx,hrun,Result.andThen];exact hk _ _ (hK v' w' r1 r2)
end
def xG (i:Mv):List Value:=[int i64 i.op,int i64 i.d,int i64 i.a,int i64 i.b,int .u32 i.n]
def uA (code:List Mv):List Value:=code.flatMap xG
theorem WE (a b):uA (a++b)=uA a++uA b:=by simp[uA]
theorem I7:∀(code:List Mv) (i j:Nat) (x:Mv),code[i]?=some x→j<5→(uA code)[i*5+j]?=(xG x)[j]?
 | [],i,j,x,h,_=>by simp at h
 |p::r,0,j,x,h,hj=>by
  simp at h;subst h;show(xG p++uA r)[0*5+j]?=_
  rw[asY,arH,arO (by simpa[xG]using hj)]
 |p::r,i+1,j,x,h,hj=>by
  have ih:=I7 r i j x (by simpa using h) hj;show(xG p++uA r)[(i+1)*5+j]?=_
  rw[arK (by simp[xG];omega)];rw[show(i+1)*5+j-(xG p).length=i*5+j by simp[xG];omega];exact ih
theorem WG (code):∀u∈uA code,u.oneCell'=true:=by intro u hu;simp only[uA,atH]at hu;obtain⟨i,_,hu⟩:=hu;simp only[xG,arG,arN,awQ]at hu;rcases hu with rfl|rfl|rfl|rfl|rfl<;>rfl
theorem Qo {base}(O:w.ownsRow base 235 5 v code.length (uA code))(hn:∀i∈code,Hh.W i.n)(ho:∀i∈code, -9223372036854775808<=i.op/\i.op<=9223372036854775807):∃ca cc,v=slice ca code.length cc/\Cs w ca code.length code:=by
 obtain⟨ca,cc,rfl⟩:=sM O;refine⟨ca,cc,rfl,rfl,hn,ho,fun h0=>?_⟩;obtain⟨g,c,e,hg,hc⟩:=Qn O h0;injection e with e1 _ _;refine⟨g,0,e1,hg,fun j i hi=>?_⟩;rw[arH];have q:=fun t (ht:t<5)=>I7 code j t i hi ht
 refine⟨hc _ _ ?_,hc _ _ ?_,hc _ _ ?_,hc _ _ ?_,hc _ _ ?_⟩
 ·have:=q 0 ab;rwa[asK]at this
 ·exact q 1 ab
 ·exact q 2 ab
 ·exact q 3 ab
 ·exact q 4 ab
def Ct (w:World) (ca:Option Addr) (cn:Nat) (code:List Mv):Prop:=∀W:World,(∀(k:Nat) (o:Array Value) (f:Nat×Nat),w.heap[k]?=some (.cells o 235 f)->W.heap[k]?=w.heap[k]?)->Cs W ca cn code
theorem Ct.cs (h:Ct w ca cn code):Cs w ca cn code:=h w fun _ _ _ _=>rfl
theorem Ct.to {w'}(h:Ct w ca cn code)(q:∀(k:Nat) (o) (f),w.heap[k]?=some (.cells o 235 f)->w'.heap[k]?=w.heap[k]?):Ct w' ca cn code:=fun W hW=>h W fun k o f hk=>(hW k o f ((q k o f hk).trans hk)).trans (q k o f hk)
theorem Ct.of (h:Ct w ca cn code)(G:Gr w w'):Ct w' ca cn code:=h.to fun k o f hk=>G.block k (gs hk).1
theorem abB {base}(O:w.ownsRow base 235 5 v code.length (uA code))(hn:∀i∈code,Hh.W i.n)(ho:∀i∈code, -9223372036854775808<=i.op/\i.op<=9223372036854775807):∃ca cc,v=slice ca code.length cc/\Ct w ca code.length code:=by obtain⟨ca,cc,rfl,_⟩:=Qo O hn ho;refine⟨ca,cc,rfl,fun W q=>?_⟩;obtain⟨ca',cc',e,C⟩:=Qo (aj O q) hn ho;injection e with e1 _ _;subst e1;exact C
end Ts
namespace Kc
variable[Inhabited Hc.bH]
open Mm Ts Hc
variable{x y:Value}
theorem vX {W:World}{z1 z2 z3}(h:W.heap[g]?=some (.cells #[z0,z1,z2,z3] t (0,0)))(a b c d):((((W.setCell ⟨g,0,none⟩ a).setCell ⟨g,1,none⟩ b).setCell ⟨g,2,none⟩ c).setCell ⟨g,3,none⟩ d).heap[g]?=some (.cells #[a,b,c,d] t (0,0)):=by have h0:=awE W g 0 _ _ a h;have h1:=awE _ g 1 _ _ b h0;have h2:=awE _ g 2 _ _ c h1;exact awE _ g 3 _ _ d h2
theorem Dn {x}(F:World->Prop)(h:F x)(k:∀y,F y->p y):p x:=k x h
end Kc
namespace Kc
variable[Inhabited Hc.bH]
open Mm Ts Hc
variable{w w':World}{ao:Option Addr}{n m base e bytes:Nat}{vx z:Value}{news:List Value}{P:Program}{i:TypeInfo}{t:TypeId}
theorem Qp:(prog.info? 59).map (fun i=>(i.zero,i.size,i.bytes))=some (some (agg #[int i64 0,int i64 0,int i64 0,int i64 0,int i32 0]),5,40):=al
theorem iBk:(prog.info? 64).map (·.size)=some 2:=al
def Sc (w:World) (vx:Value) (m:Nat) (news:List Value):Prop:=(∃x c,vx=slice x 0 c/\m=0/\news=[])\/∃ad c,vx=slice (some ad) m c/\news.length=m*5/\∀j u,news[j]?=some u->w.cell? (ad.add j)=some u
theorem afz {is}(h:Is w ao n is):Sc w (slice ao n c) n (Uk is):=by
 have hl:=h.len;by_cases hn:0<n
 ·obtain⟨b,o,rfl,hb,hc⟩:=h.spot hn;refine .inr ⟨_,c,rfl,by rw[IA,hl],fun j u hj=>?_⟩;have hlt:=(arw.1 hj).1;rw[IA]at hlt;obtain⟨i,hi⟩:∃i,is[j/5]?=some i:=⟨_,arq ab⟩;have q:=zF is (j/5) (j%5) i hi ab;rw[show j/5*5+j%5=j by omega,hj]at q;obtain⟨h0,h1,h2,h3,h4⟩:=hc _ i hi;rw[cK];have hm:j%5<5:=ab;generalize hr:j%5=r at *
  have ej:j=j/5*5+r:=ab
  match r,hm,q,ej with
  |0,_,q,ej=>rw[ej,show o+(j/5*5+0)=o+j/5*5 by omega,h0];exact q.symm
  |1,_,q,ej=>rw[ej,<-atb,h1];exact q.symm
  |2,_,q,ej=>rw[ej,<-atb,h2];exact q.symm
  |3,_,q,ej=>rw[ej,<-atb,h3];exact q.symm
  |4,_,q,ej=>rw[ej,<-atb,h4];exact q.symm
  |r+5,hm,_,_=>exact absurd hm ab
 ·have e:n=0:=ab;subst e;have e2:=asa hl;subst e2;exact .inl ⟨ao,c,rfl,rfl,rfl⟩
theorem Sc.gr (h:Sc w vx m news)(G:Gr w w'):Sc w' vx m news:=by
 rcases h with h|⟨ad,c,e,hl,hc⟩
 ·exact .inl h
 ·exact .inr ⟨ad,c,e,hl,fun j u hj=>(G.cell _ (awo w _ (hc j u hj))).trans (hc j u hj)⟩
theorem xH (ty )(h1 :P.underlying t =some (.slice e)) (h2 :P.info? e =some i) (h3 :i.zero =some z) (h4 :i.size =5) (h5 :i.bytes =bytes) (h6 :z.cells.size =5)(hsrc :Sc w vx m news) (h1c : ∀ u ∈ news, u.oneCell' =true) (b1 :m <= maxLen) (b2 :m * bytes <= 140737488355328) (hbase :base <= w.heap.size) :∃ v' w', (Builtin.append_ #[t, t] ty #[.slice none 0 0, vx]).run P w = .ok v' w' /\ w'.ownsRow base e 5 v' m news /\ w.grownBy w' none :=by
  rcases hsrc with⟨x, c, rfl, rfl, rfl⟩ |⟨ad, c, rfl, hl, hc⟩
  · refine ⟨.slice none 0 0, w, ?_, awG w base e 5, ⟨rfl, rfl, rfl, arA _, fun _ _ _ => rfl⟩⟩
    cases x <;> simp[Builtin.append_, run_underlying h1, sizeOf, typeInfo, h2, Builtin.lenOf, Builtin.firstCells, loadCells, loadCellsFrom]
  · obtain ⟨v', w', hrun, r1, r2, _⟩ := axp (P := P) w base t ty e i z 5 bytes h1 h2 h3 h4 h5 h6 an (.slice none 0 0) 0 [] (awG w base e 5) ad m c news hl hc h1c ab (by rw [arH]; exact b2) hbase
    exact⟨v', w', hrun, by simpa using r1, r2⟩
theorem sN {rest }   {Q }(hg :o.guard =none) (s x ) (hop :o.op =Op.call { callee :=Callee.builtin Builtin.append, args := #[s, x], argTypes := #[t, t] })(h1 :P.underlying t =some (.slice e)) (h2 :P.info? e =some i) (h3 :i.zero =some z) (h4 :i.size =5) (h5 :i.bytes =bytes) (h6 :z.cells.size =5)(hs : a.eval s = .slice none 0 0) (hx : a.eval x = vx) (hsrc : Sc w vx m news) (h1c : ∀ u ∈ news, u.oneCell' = true) (b1 : m ≤ maxLen) (b2 : m * bytes ≤ 140737488355328) (hbase : base ≤ w.heap.size)(hK : ∀ v' w', w'.ownsRow base e 5 v' m news -> w.grownBy w' none -> wpList P ops Q rest (a.put o.dst v') w') :wpList P ops Q (o ::rest) a w :=by
  refine axo hg fun K hk => ?_
  obtain⟨v', w', hrun, r1, r2⟩ :=xH (P :=P) o.type h1 h2 h3 h4 h5 h6 hsrc h1c b1 b2 hbase;unfold Oper.wp;simp[execOp, hop, resolve, invoke, builtin, hs, hx, hrun, Result.andThen];exact hk _ _ (hK v' w' r1 r2)
theorem I8 (h:w.grownBy w' none):Gr w w':=Gr.grown (Gr.refl w) h (fun k e=>by cases e)
theorem sO {b}{vn vc}(hb:Bc w b (int .u32 b.pc) (slice va vn vc)):Calls prog 138 #[agg #[int .u32 b.pc,slice va vn vc]] w fun e w'=>∃v,e=returned (agg #[int .u32 b.pc,v])/\Io w' w.heap.size v b.is/\Gr w w':=by
 obtain⟨_,_,sa,sn,sc,e2,I,hsz⟩:=hb;injection e2 with q1 q2 q3;subst q1;subst q2;subst q3;have hbl:b.is.length*40<=140737488351232:=by rw[I.len];exact hsz
 have HS:Hid (Sc w (slice va vn vc) vn (Uk b.is)):=afz I;have HL:Hid _:=I.len;obtain⟨i0,hi,hz0,hz1,hz2⟩:=awS Qp;clear I hbl;generalize b.pc=x at *
 go_enter func138,ntmps138;go_wp2_with (at_builtin;refine sN (base:=w.heap.size) rfl _ _ rfl underlying62 hi hz0 hz1 hz2 rfl rfl rfl (HS.gr (((Gr.refl w).alloc _).alloc _)) (U6 _) bj ab aE ?_);intro v' w' hown hgrow;have G2:=I8 hgrow;have HIo:Hid (Io w' w.heap.size v' b.is):=by unfold Hid Io;rw[HL.out];exact hown
 have HG:=kH ((((Gr.refl w).alloc _).alloc _).trans G2);obtain⟨a',c',rfl⟩:=HIo.shape;have B0:=bB (br.trans G2) (awk w _);have B1:=bB G2 (Kq w _ _);have HB0:=kH B0;have HB1:=kH B1;have c0:=fA B0;have c1:=eH B0;have f1:w'.frozen? ⟨w.heap.size,1,none⟩=false:=iA B0;have d0:=fA B1;have d1:=eH B1;have g1:∀j,w'.frozen? ⟨w.heap.size+1,j,none⟩=false:=fun j=>iA B1
 generalize b.is.length=q at *
 go_wp2_with fail;have e1:(w'.setCell ⟨w.heap.size,1,none⟩ (slice a' q c')).heap[w.heap.size+1]?=some (.cells #[int .u32 0,slice none 0 0] 64 (0,0)):=(hso (by show w.heap.size+1≠w.heap.size;omega)).trans HB1;have e2:=awE _ _ 0 _ _ (int .u32 x) e1;have e3:=awE _ _ 1 _ _ (slice a' q c') e2;refine awt (v:=agg #[int .u32 x,slice a' q c']) (awZ results138 _ _ _ _ _ (0,0) _ rfl e3 underlying64 rfl iBk) rfl ⟨_,rfl,?_,?_⟩
 ·refine HIo.to fun k o f hk=>?_
  have n0:=aa hk HB0 an;have n1:=aa hk HB1 an;rw[hso (by exact n1),hso (by exact n1),hso (by exact n0)]
 ·exact((HG.setCell (by show w.heap.size<=w.heap.size;omega) _).setCell (by show w.heap.size<=w.heap.size+1;omega) _).setCell (by show w.heap.size<=w.heap.size+1;omega) _
theorem zX (W:World)(g)(a b c d)(hk:k≠g):((((W.setCell ⟨g,0,none⟩ a).setCell ⟨g,1,none⟩ b).setCell ⟨g,2,none⟩ c).setCell ⟨g,3,none⟩ d).heap[k]?=W.heap[k]?:=by rw[hso (by exact hk),hso (by exact hk),hso (by exact hk),hso (by exact hk)]
theorem vY {b0}(h:w.ownsRow base e sz v n xs)(hb:b0<=base):w.ownsRow b0 e sz v n xs:=by
 obtain⟨h1,h2⟩:=h;refine⟨h1,?_⟩;rcases h2 with h2|⟨g,cp,cur,e1,e2,e3⟩
 ·exact .inl h2
 ·exact .inr ⟨g,cp,cur,e1,ab,e3⟩
theorem jV {A B C}{t u s:Nat}(g:Gr (((w.alloc (.cells A t)).alloc (.cells B u)).alloc (.cells C s)) w'):w'.heap[w.heap.size]?=some (.cells A t (0,0))/\w'.heap[w.heap.size+1]?=some (.cells B u (0,0))/\w'.heap[w.heap.size+1+1]?=some (.cells C s (0,0)):=by refine⟨bB ((br.alloc _).trans g) (awk w _),bB (br.trans g) (Kq w _ _),bB g ?_⟩;have:=awk ((w.alloc (.cells A t)).alloc (.cells B u)) (.cells C s);simpa using this
theorem yB (cap){bs}(B:Bs w ao n bs)(hn:n*32<=140737488351232)(room pu sl):Calls prog 116 #[agg #[int i64 room,slice ao n cap,int i64 pu,int i64 sl]] w fun e w'=>∃g cp xs,e=returned (agg #[int i64 room,slice (some ⟨g,0,none⟩) n cp,int i64 pu,int i64 sl])/\w'.ownsRow w.heap.size 64 2 (slice (some ⟨g,0,none⟩) n cp) n xs/\Bx w' w.heap.size bs xs/\Gr w w':=by
 have HL:Hid _:=B.len;have HB:=kH B;have CP:Hid (∀(W:World) (b:Bv) (va:Option Addr) (vn vc:Nat),Gr w W->Bc w b (int .u32 b.pc) (slice va vn vc)->_):=fun W b va vn vc G h=>sO (h.of G)
 obtain⟨i0,hi,hz0,hz1,hz2⟩:=awS Ox;clear B;go_enter func116,ntmps116;go_wp2_with (at_make;refine wpList_make_own _ rfl _ _ 52 rfl (w.heap.size+1+1) 64 i0 _ 2 underlying52 hi hz0 hz1 _ _ _ (n+1) rfl rfl (by go_num) (by rw[hz2];omega) bj aq ?_);intro w0 hown0 vk;have G0:=I8 vk;have HO0:Hid (∃g,w0.ownsRow (w.heap.size+1+1) 64 2 (slice (some ⟨g,0,none⟩) 0 (n+1)) 0 []/\g=w.heap.size+1+1):=⟨_,hown0,aq⟩;have H00:Hid _:=bB (br.trans G0) (awk w _);have H01:Hid _:=bB G0 (Kq w _ _);have qf:=kH ((((Gr.refl w).alloc _).alloc _).trans G0);have z1:w0.cell? ⟨w.heap.size,1,none⟩=some (slice ao n cap):=awl _ _ _ _ _ _ H00;clear hown0 vk G0;go_wp2_with fail;go_loopw [3,14] (fun V i wr=>∃j:Nat,j<=n/\i=int i64 j/\∃g cp xs,V=slice (some ⟨g,0,none⟩) j cp/\wr.heap[w.heap.size]?=some (.cells #[int i64 room,slice ao n cap,int i64 pu,int i64 sl] 54 (0,0))/\wr.heap[w.heap.size+1]?=some (.cells #[int i64 0,slice none 0 0,int i64 0,int i64 0] 54 (0,0))/\wr.ownsRow (w.heap.size+1+1) 64 2 (slice (some ⟨g,0,none⟩) j cp) j xs/\Bx wr w.heap.size (bs.take j) xs/\Gr w wr) (fun _ i _=>n-(intOf i).toNat)
 case atStart=>
  obtain⟨g,O,rfl⟩:=HO0;exact⟨0,arQ _,rfl,_,_,[],rfl,H00,H01,O,Bx.nil _ _,qf⟩
 case round=>
  obtain⟨j,hj,rfl,g,cp,xs,rfl,h0,h1,hO,hX,G⟩:=hrel;have HG:=kH G;have HO:=kH hO;have HX:=kH hX;have H0:=kH h0;have H1:=kH h1;clear h0 h1 hO hX G HO0 H00 H01 qf z1;by_cases hlt:j<n
  ·obtain⟨b,hb⟩:∃b,bs[j]?=some b:=⟨_,arq (by rw[HL.out];exact hlt)⟩;obtain⟨k,o,rfl,hk,hcell⟩:=HB.spot ab;obtain⟨u,v,p0,p1,hbc⟩:=hcell j b hb;obtain⟨o1,o2,va,vn,vc,rfl⟩:=hbc.ones;have d0:=(HG.cell _ (by exact hk)).trans p0;have d1:=(HG.cell _ (by exact hk)).trans p1;have hu:=hbc.1;subst hu;have CP2:Hid (∀W:World,Gr w W->_):=fun W G=>CP W b va vn vc G hbc
   have HT:Hid (∀(W:World) (v:Value),Bx W w.heap.size (bs.take j) xs->Io W w.heap.size v b.is->Bx W w.heap.size (bs.take (j+1)) (xs++[int .u32 b.pc,v])):=fun W v h1 h2=>by rw[arW,hb];exact h1.snoc h2
   clear hcell p0 p1 hbc CP hb;generalize b.pc=bp at *
   go_wp2_with fail;refine(CP2 _ (HG.alloc _)).mono ?_;rintro e w2 ⟨v2,rfl,I2,G2⟩;have HG2:Hid _:=((Gr.refl wr).alloc _).trans G2;have HI2:Hid (Io w2 w.heap.size v2 b.is):=I2.low (by have:=HG.size;simp;omega);obtain⟨ia,ic,rfl⟩:=I2.shape;clear CP2 G2 I2;generalize b.is.length=iq at *
   have kT:=kH (aD HO HG2);have mh:Hid (w.heap.size+1+1<=w2.heap.size):=by
    have q1:=HG2.size;have q3:=(arz.1 H1).1;unfold Hid;omega
   go_wp2_with (at_builtin;have q0:=mh.out;have q1:=aD kT.out ((Gr.refl w2).alloc (.cells #[int .u32 bp,slice ia iq ic] 64));refine awW _ rfl (tmp 18) (tmp 21) 52 rfl (w.heap.size+1+1) 64 i0 _ 2 32 underlying52 hi hz0 hz1 hz2 rfl an (slice (some ⟨g,0,none⟩) j cp) j xs rfl q1 ⟨w2.heap.size,0,none⟩ 1 1 [int .u32 bp,slice ia iq ic] rfl rfl ?xc (vB rfl rfl) ?xd ?xe ?xf ?xg;(case xc=>exact dX aq aq);(case xd=>unfold maxLen;omega);(case xe=>omega);(case xf=>simp;omega));rintro v' w' hown hgrow -
   obtain⟨g',cp',rfl⟩:=dA hown ab;have HOn:=kH hown;have Zp:Hid (∀(q:Nat) (c:Array Value) (r:Nat) (z:Nat×Nat),w2.heap[q]?=some (.cells c r z)->r≠64->_):=fun q c r z hq hr=>dS (aD kT ((Gr.refl w2).alloc _)) hgrow (bB ((Gr.refl w2).alloc _) hq) hr
   have HGn:=kH (Gr.grown ((HG.trans HG2).alloc _) hgrow (fun q e=>by have:=(kT.lt q e).1;omega));clear hown hgrow d0 d1 HB;go_wp2_with fail;go_roundw
   case rel=>
    refine⟨j+1,ab,by go_num,g',cp',xs++[int .u32 bp,slice ia iq ic],rfl,Zp.out _ _ _ _ (bB HG2.out H0.out) an,Zp.out _ _ _ _ (bB HG2.out H1.out) an,HOn.out,?_,HGn.out⟩;exact HT _ _ ((HX.of HG2).to fun q c f hq=>by rw[Zp.out _ _ _ _ hq an];exact hq.symm) (HI2.to fun q c f hq=>by rw[Zp.out _ _ _ _ hq an];exact hq.symm)
   case measure=>simp[intOf];omega
  ·have ej:j=n:=ab;have HE:Hid (bs.take j=bs):=by unfold Hid;rw[ej,<-HL.out,ash]
   have LK:Hid (Bx wr w.heap.size bs xs):=by have:=HX;rwa[HE.out]at this
   have HOe:Hid (wr.ownsRow (w.heap.size+1+1) 64 2 (slice (some ⟨g,0,none⟩) n cp) n xs):=by have:=HO;rwa[ej]at this
   subst ej;have y0:wr.cell? ⟨w.heap.size,0,none⟩=some (int i64 room):=awl _ _ _ _ _ _ H0;have y1:wr.cell? ⟨w.heap.size,1,none⟩=some (slice ao j cap):=awl _ _ _ _ _ _ H0;have y2:wr.cell? ⟨w.heap.size,2,none⟩=some (int i64 pu):=awl _ _ _ _ _ _ H0;have y3:wr.cell? ⟨w.heap.size,3,none⟩=some (int i64 sl):=awl _ _ _ _ _ _ H0;have yf:wr.frozen? ⟨w.heap.size,1,none⟩=false:=awM _ _ _ _ _ H0;have x0:wr.cell? ⟨w.heap.size+1,0,none⟩=some (int i64 0):=awl _ _ _ _ _ _ H1;have x1:wr.cell? ⟨w.heap.size+1,1,none⟩=some (slice none 0 0):=awl _ _ _ _ _ _ H1;have x2:wr.cell? ⟨w.heap.size+1,2,none⟩=some (int i64 0):=awl _ _ _ _ _ _ H1;have x3:wr.cell? ⟨w.heap.size+1,3,none⟩=some (int i64 0):=awl _ _ _ _ _ _ H1;have xf:∀j,wr.frozen? ⟨w.heap.size+1,j,none⟩=false:=fun j=>awM _ _ _ _ _ H1
   clear HB HE HO HX CP;go_wp2_with fail;have e1:(wr.setCell ⟨w.heap.size,1,none⟩ (slice (some ⟨g,0,none⟩) j cp)).heap[w.heap.size+1]?=some (.cells #[int i64 0,slice none 0 0,int i64 0,int i64 0] 54 (0,0)):=(awR _ _ _ _ (by show w.heap.size+1≠w.heap.size;omega)).trans H1;have hk:∀(k:Nat) (c:Array Value) (r:Nat) (f:Nat×Nat),wr.heap[k]?=some (.cells c r f)->r≠54->(((((wr.setCell ⟨w.heap.size,1,none⟩ (slice (some ⟨g,0,none⟩) j cp)).setCell ⟨w.heap.size+1,0,none⟩ (int i64 room)).setCell ⟨w.heap.size+1,1,none⟩ (slice (some ⟨g,0,none⟩) j cp)).setCell ⟨w.heap.size+1,2,none⟩ (int i64 pu)).setCell ⟨w.heap.size+1,3,none⟩ (int i64 sl)).heap[k]?=wr.heap[k]?:=fun k c r f hq hr=>by
    rw[zX _ _ _ _ _ _ (aa hq H1.out hr),awR _ _ _ _ (by exact aa hq H0.out hr)]
   refine awt (v:=agg #[int i64 room,slice (some ⟨g,0,none⟩) j cp,int i64 pu,int i64 sl]) (awZ results116 _ _ _ _ _ (0,0) _ rfl (vX e1 _ _ _ _) underlying54 rfl xB) rfl ⟨g,cp,xs,rfl,?_,?_,?_⟩
   ·exact aj (vY HOe ab) fun q c r hq=>hk q c _ r hq an
   ·exact LK.to fun q c r hq=>hk q c _ r hq an
   ·have q1:w.heap.size<=w.heap.size+1:=ab;exact((((HG.setCell (by show w.heap.size<=w.heap.size;omega) _).setCell (by exact q1) _).setCell (by exact q1) _).setCell (by exact q1) _).setCell (by exact q1) _
end Kc
namespace Kc
variable[Inhabited Hc.bH]
open Mm Ts Hc
variable{base:Nat}{cs:List Value}
theorem FZ (R:Rw w base g cap cs)(hn:n<=cap)(hk:k<n)(h1c:∀u∈(cs.take (n*2)).drop ((k+1)*2),u.oneCell'=true):Calls prog 182 #[slice (some ⟨g,0,none⟩) n cap,int i64 k,int i64 ((k:Int)+1)] w fun e w'=>e=returned (slice (some ⟨g,0,none⟩) (n-1) cap)/\∃cs',Rw w' base g cap cs'/\cs'.take ((n-1)*2)=cs.take (k*2)++(cs.take (n*2)).drop ((k+1)*2)/\Ch g w w':=by
 have hm:=R.cap;unfold maxLen at hm;have HR:=kH R;obtain⟨i0,hi,hz0,hz1,hz2⟩:=awS Ox;obtain⟨news,hnews⟩:∃news,news=(cs.take (n*2)).drop ((k+1)*2):=⟨_,rfl⟩;have hcl:=R.len;have hlen:news.length=(n-(k+1))*2:=by rw[hnews,asz,ase,hcl];omega
 have hget:∀t u,news[t]?=some u->cs[(k+1)*2+t]?=some u:=fun t u hu=>by
  rw[hnews,asc,ar9]at hu;split at hu
  ·exact hu
  ·cases hu
 obtain⟨A,hA,hsrc⟩:∃A:Addr,(if cap=k+1 then some (⟨g,0,none⟩:Addr)else some ⟨g,(k+1)*2,none⟩)=some A/\Hid (∀t u,news[t]?=some u->w.drew.cell? (A.add t)=some u):=by
  by_cases h:cap=k+1
  ·refine⟨⟨g,0,none⟩,by simp[h],fun t u hu=>?_⟩;have:=(arw.1 hu).1;omega
  ·refine⟨⟨g,(k+1)*2,none⟩,by simp[h],fun t u hu=>?_⟩;rw[cK];exact R.cell (hget t u hu)
 have s1:=kH hlen;have s2:Hid (∀u∈news,_):=fun u hu=>h1c u (by rw[<-hnews];exact hu)
 have s3:Hid (∀j,j<news.length->(w.drew.cell? ⟨g,0+k*2+j,none⟩).isSome=true/\w.drew.frozen? ⟨g,0+k*2+j,none⟩=false):=fun j hj=>⟨R.isS (w:=w) ab,R.fz _⟩
 obtain⟨W1,hW1⟩:∃W1,W1=w.drew.setCells g (0+k*2) news:=⟨_,rfl⟩;have HW:=kH hW1;have R1:Rw W1 base g cap (cs.take (k*2)++news++cs.drop (k*2+news.length)):=by
  rw[hW1,arH];exact(R.of (Gr.refl w).drew).set ab
 have HR1:=kH R1;have WH:Hid (Ch g w W1):=by unfold Hid;rw[hW1];exact chC ((Ch.refl g w).gr (Gr.refl w).drew) _ _
 have uR:=kH hnews;have hcr:∀ty,(Builtin.clear_ #[52] ty #[slice (some ⟨g,(n-1)*2,none⟩) (n-(n-1)) (cap-(n-1))]).run prog W1=.ok (tuple #[]) (W1.setCells g ((n-1)*2) (Ke (n-(n-1)))):=fun ty=>
  vC W1 _ _ ty underlying52 Tryz.zeroValue64 g ((n-1)*2) (n-(n-1)) (cap-(n-1)) ab (fun j hj=>R1.isS ab) (fun j hj=>R1.fz _)
 clear R hget hnews hlen hW1 R1 h1c hcl;have e1:k+(n-(k+1))=n-1:=ab;have hic:k<=cap:=ab;have hjc:k+1<=cap:=ab;have hq1:(0:Int)<=(k:Int)+1:=ab;have hq2:(k:Int)+1<=(n:Int):=ab;go_enter func182,ntmps182;go_wp2_with fail;go_region_law (refine step_append_room rfl (tmp 22) (tmp 25) 52 rfl 64 i0 2 underlying52 hi hz1 g 0 k cap ar A (n-(k+1)) (cap-(k+1)) news ar s1 hsrc.out s2 ab s3 ?_;rw[<-HW.out]);go_wp2_with fail;go_ret;have hl:=HR.len;have hnl:=s1;refine⟨rfl,_,HR1.set (by rw[uM];omega),?_,chC WH _ _⟩;have e2:(cs.take (k*2)).length=k*2:=by rw[ase,hl];omega
 have e3:(cs.take (k*2)++news).length=(n-1)*2:=by rw[ary,e2,hnl];omega
 rw[asq,asS (by simp only[ase,ary,asz];omega),List.take_take,Nat.min_self,<-e3,ath,uR.out]
theorem Dp (R:Rw w base g cap cs)(hn:n<=cap)(hk:k<n)(h1c:∀u∈(cs.take (n*2)).drop ((k+1)*2),u.oneCell'=true):Calls prog 168 #[slice (some ⟨g,0,none⟩) n cap,int i64 k] w fun e w'=>e=returned (slice (some ⟨g,0,none⟩) (n-1) cap)/\∃cs',Rw w' base g cap cs'/\cs'.take ((n-1)*2)=cs.take (k*2)++(cs.take (n*2)).drop ((k+1)*2)/\Ch g w w':=by have hm:=R.cap;unfold maxLen at hm;have D:=kH (FZ R hn hk h1c);go_enter func168,ntmps168;go_wp2_with fail;refine D.mono ?_;rintro e w1 ⟨rfl,X⟩;have HX:=kH X;go_wp2_with fail;go_ret;exact⟨rfl,HX⟩
theorem F7 {b1}{bs}(O:w.ownsRow base 64 2 (slice (some ⟨g,0,none⟩) n cap) n xs)(B:Bx w b1 bs xs)(hl:bs.length=n)(hk:k<n):Calls prog 168 #[slice (some ⟨g,0,none⟩) n cap,int i64 k] w fun e w'=>e=returned (slice (some ⟨g,0,none⟩) (n-1) cap)/\∃xs',w'.ownsRow base 64 2 (slice (some ⟨g,0,none⟩) (n-1) cap) (n-1) xs'/\Bx w' b1 (bs.take k++bs.drop (k+1)) xs'/\Ch g w w':=by obtain⟨hn,cs,R,rfl⟩:=Rw.open O;refine(Dp R hn hk fun u hu=>B.one u (as7 hu)).mono ?_;rintro e w' ⟨rfl,cs',R',e',q⟩;have O':=R'.own (m:=n-1) ab;rw[e']at O';refine⟨rfl,_,O',?_,q⟩;have h1:=B.take k;rw[List.take_take,show min (k*2) (n*2)=k*2 by omega]at h1;exact(h1.app (B.drop (k+1))).ch R q
end Kc
namespace Kc
variable[Inhabited Hc.bH]
open Mm Ts Hc
variable{f t:Int}{bs:List Bv}
theorem Dt (h:∀(i:Nat) (x),bs[i]?=some x->hasB x f t=false):bM f t bs=bs:=by unfold bM;rw[List.filter_eq_self];intro b hb;obtain⟨i,hi⟩:=asv.1 hb;rw[h i b hi];rfl
theorem LM (h:∀(i) (x),i<k->bs[i]?=some x->hasB x f t=false):bM f t (bs.take k)=bs.take k:=
 Dt fun i x hx=>by
  rw[ar9]at hx;split at hx
  ·rename_i hi;exact h i x hi hx
  ·cases hx
theorem yC {cs:List Value}{r}(h:((cs.take (n*2)).drop (j*2))[r]?=some u):cs[j*2+r]?=some u:=by
 rw[asc,ar9]at h;split at h
 ·exact h
 ·cases h
theorem Qq {base b1}{bs}(O:w.ownsRow base 64 2 (slice (some ⟨g,0,none⟩) n cap) n xs)(B:Bx w b1 bs xs)(hl:bs.length=n)(hn:n<=140737488351232)(ok:∀b∈bs,b.Ok){K}(hK:w.heap[K]?=some (.cells #[int .u32 f,int .u32 t] 175 (0,0)))(ht:t<4294967296):Calls prog 117 #[slice (some ⟨g,0,none⟩) n cap,.func (.func 145) #[] #[pointer (some ⟨K,0,none⟩)]] w fun e w'=>∃m xs',e=returned (slice (some ⟨g,0,none⟩) m cap)/\(bM f t bs).length=m/\w'.ownsRow base 64 2 (slice (some ⟨g,0,none⟩) m cap) m xs'/\Bx w' b1 (bM f t bs) xs'/\Ch g w w':=by
 obtain⟨hnc,cs,R,rfl⟩:=Rw.open O;have hm:=R.cap;unfold maxLen at hm;have IX:Hid (Calls prog 136 #[slice (some ⟨g,0,none⟩) n cap,.func (.func 145) #[] #[pointer (some ⟨K,0,none⟩)]] w fun e w'=>e=returned (int i64 (jP (fun b=>hasB b f t) bs 0))/\Gr w w'):=
  Cq cap (R.bq B hl) hn K (fun b=>hasB b f t) fun W b sa sc G hb=>qF (awl _ _ _ _ _ _ (bB G hK)) (awl _ _ _ _ _ _ (bB G hK)) ht (ok b hb) sa sc
 have HR:=kH R;have HB:=kH B;have HO:=kH O;have HL:=kH hl;have HK:=kH hK;have Cl:Hid (∀(W:World) (b:Bv) (sa:Option Addr) (sc:Nat),W.heap[K]?=some (.cells #[int .u32 f,int .u32 t] 175 (0,0))->b∈bs->_):=fun W b sa sc h hb=>qF (awl _ _ _ _ _ _ h) (awl _ _ _ _ _ _ h) ht (ok b hb) sa sc
 clear R B O hl hK ok;rcases U8 (fun b=>hasB b f t) bs with⟨e1,hall⟩|⟨k0,x0,e1,hx0,hp0,hall⟩
 ·rw[e1]at IX;have HA:=kH (Dt hall);clear hall Cl e1 HR;go_enter func117,ntmps117;go_wp2_with fail;refine IX.mono ?_;rintro e w1 ⟨rfl,G1⟩;have aU:=kH G1;clear IX G1;go_wp2_with fail;go_ret;refine⟨n,_,rfl,by rw[HA.out];exact HL,aD HO aU,by rw[HA.out];exact HB.of aU,(Ch.refl g w).gr aU⟩
 ·rw[e1]at IX;have hk0:k0<n:=by rw[<-HL.out];exact(arw.1 hx0).1
  have hne:((k0:Int) == -1)=false:=awr.2 ab;have HKu:Hid (bM f t (bs.take (k0+1))=bs.take k0):=by
   unfold Hid;rw[x8 hx0,awn hp0];exact LM hall
  clear hall e1 hp0 hx0 HO;go_enter func117,ntmps117;go_wp2_with fail;refine IX.mono ?_;rintro e w1 ⟨rfl,G1⟩;have aU:=kH G1;clear IX G1;go_wp2_with fail;go_loopw [5,6] (fun vi vj wr=>∃(i j:Nat) (cs:List Value),vi=int i64 i/\vj=int i64 j/\i<j/\j<=n/\Rw wr base g cap cs/\(bM f t (bs.take j)).length=i/\Bx wr b1 (bM f t (bs.take j)) (cs.take (i*2))/\Bx wr b1 (bs.drop j) ((cs.take (n*2)).drop (j*2))/\wr.heap[K]?=some (.cells #[int .u32 f,int .u32 t] 175 (0,0))/\Ch g w wr) (fun _ j _=>n-(intOf j).toNat)
  case atStart=>
   have B1:=HB.of aU;refine⟨k0,k0+1,cs,rfl,by go_num,ab,ab,HR.of aU,?_,?_,B1.drop (k0+1),bB aU HK,(Ch.refl g w).gr aU⟩
   ·rw[HKu.out,ase,HL.out];omega
   ·rw[HKu.out];have:=B1.take k0;rwa[List.take_take,show min (k0*2) (n*2)=k0*2 by omega]at this
  case round=>
   obtain⟨i,j,ds,rfl,rfl,hij,hjn,R,hli,B1,B2,hK,q⟩:=hrel;have Du:Hid (Rw wr base g cap ds):=R;have HB1:Hid (Bx wr b1 (bM f t (bs.take j)) (ds.take (i*2))):=B1;have HB2:Hid (Bx wr b1 (bs.drop j) ((ds.take (n*2)).drop (j*2))):=B2;have HLi:Hid ((bM f t (bs.take j)).length=i):=hli;have HKr:Hid (wr.heap[K]?=some (.cells #[int .u32 f,int .u32 t] 175 (0,0))):=hK;have HQ:Hid (Ch g w wr):=q;clear R B1 B2 hli hK q HR HB aU HK HKu;by_cases hlt:j<n
   ·obtain⟨b,hb⟩:∃b,bs[j]?=some b:=⟨_,arq (by rw[HL.out];exact hlt)⟩;obtain⟨v,h1,h2,h3⟩:=HB2.at_ 0 b (by rw[asc];exact hb);obtain⟨sa,sc,rfl⟩:=h3.shape;have c0:wr.cell? ⟨g,j*2,none⟩=some (int .u32 b.pc):=Du.cell (yC h1);have c1:wr.cell? ⟨g,j*2+1,none⟩=some (slice sa b.is.length sc):=Du.cell (yC h2);have HI3:Hid (Io wr b1 (slice sa b.is.length sc) b.is):=h3;have yg:Hid (∀W:World,W.heap[K]?=some (.cells #[int .u32 f,int .u32 t] 175 (0,0))->Calls prog 145 #[agg #[int .u32 b.pc,slice sa b.is.length sc],pointer (some ⟨K,0,none⟩)] W fun e w'=>e=returned (.bool (hasB b f t))/\Gr W w'):=fun W h=>Cl W b sa sc h (arE hb)
    have HKt:=x8 (f:=f) (t:=t) hb;have HBd:Hid (bs.drop (j+1)=(bs.drop j).drop 1):=by unfold Hid;rw[asT]
    clear h1 h2 h3 Cl hb;cases hh:hasB b f t with
    |true=>
     rw[hh]at yg;rw[awn hh]at HKt;have I9:Hid (bM f t (bs.take (j+1))=bM f t (bs.take j)):=HKt;clear HKt hh;generalize b.pc=bp at *
     generalize b.is.length=bn at *
     go_wp2_with fail;refine(yg _ (bB ((Gr.refl wr).alloc _) HKr)).mono ?_;rintro e w2 ⟨rfl,G2⟩;have HG2:=kH (((Gr.refl wr).alloc _).trans G2);clear G2 c0 c1 yg;go_wp2_with fail;go_roundw
     case rel=>
      refine⟨i,j+1,ds,rfl,by go_num,ab,ab,Du.of HG2,by rw[I9.out];exact HLi,by rw[I9.out];exact HB1.of HG2,?_,bB HG2 HKr,HQ.gr HG2⟩;have:=(HB2.of HG2).drop 1;rwa[asT,asT,show j*2+1*2=(j+1)*2 by omega]at this
     case measure=>simp[intOf];omega
    |false=>
     rw[hh]at yg;rw[awm (by simp[hh])]at HKt;have I9:Hid (bM f t (bs.take (j+1))=bM f t (bs.take j)++[b]):=HKt;have HBs:Hid (∀W:World,Bx W b1 (bM f t (bs.take j)) (ds.take (i*2))->Io W b1 (slice sa b.is.length sc) b.is->Bx W b1 (bM f t (bs.take j)++[b]) (ds.take (i*2)++[int .u32 b.pc,slice sa b.is.length sc])):=fun W h k=>h.snoc k
     clear HKt hh;generalize b.pc=bp at *
     generalize b.is.length=bn at *
     go_wp2_with fail;refine(yg _ (bB ((Gr.refl wr).alloc _) HKr)).mono ?_;rintro e w2 ⟨rfl,G2⟩;have HG2:=kH (((Gr.refl wr).alloc _).trans G2);have HR2:=kH (Du.of HG2);have e0:w2.cell? ⟨wr.heap.size,0,none⟩=some (int .u32 bp):=awl _ _ _ _ _ _ (bB G2 (awk wr _));have e1:w2.cell? ⟨wr.heap.size,1,none⟩=some (slice sa bn sc):=awl _ _ _ _ _ _ (bB G2 (awk wr _));have hcl:=HR2.len;obtain⟨y0,hy0⟩:∃y,w2.cell? ⟨g,i*2,none⟩=some y:=⟨_,HR2.cell (arq ab)⟩;obtain⟨y1,hy1⟩:∃y,w2.cell? ⟨g,i*2+1,none⟩=some y:=⟨_,HR2.cell (arq ab)⟩;have hfz:∀o,w2.frozen? ⟨g,o,none⟩=false:=fun o=>HR2.fz o
     have hi0:(0:Int)<=(i:Int):=ab;have hi1:(i:Int)<(n:Int):=ab;clear G2 c0 c1 yg hcl;go_wp2_with fail;go_roundw
     case rel=>
      have q2:Ch g w2 (w2.setCells g (i*2) [int .u32 bp,slice sa bn sc]):=chC (Ch.refl g w2) _ _;have hcl:=HR2.len;have R3:=HR2.set (o:=i*2) (vs:=[int .u32 bp,slice sa bn sc]) aE;have lt:(ds.take (i*2)).length=i*2:=by rw[ase,hcl];omega
      refine⟨i+1,j+1,_,by go_num,by go_num,ab,ab,R3,by rw[I9.out,ary,HLi.out];rfl,?_,?_,?_,(HQ.gr HG2).trans q2⟩
      ·have e6:(ds.take (i*2)++[Value.int .u32 bp,Value.slice sa bn sc]++ds.drop (i*2+[Value.int .u32 bp,Value.slice sa bn sc].length)).take ((i+1)*2)=ds.take (i*2)++[Value.int .u32 bp,Value.slice sa bn sc]:=by
        have l2:(ds.take (i*2)++[Value.int .u32 bp,Value.slice sa bn sc]).length=(i+1)*2:=by rw[ary,lt];simp;omega
        rw[<-l2];exact ath
       rw[I9.out,e6];exact HBs _ ((HB1.of HG2).ch HR2 q2) ((HI3.of HG2).to fun k o r hk=>HR2.keep q2 k o _ r an hk)
      ·have h4:=((HB2.of HG2).ch HR2 q2).drop 1;rw[asT,asT,show j*2+1*2=(j+1)*2 by omega]at h4;have e5:((ds.take (i*2)++[Value.int .u32 bp,Value.slice sa bn sc]++ds.drop (i*2+[Value.int .u32 bp,slice sa bn sc].length)).take (n*2)).drop ((j+1)*2)=(ds.take (n*2)).drop ((j+1)*2):=by
        apply asC;intro z;rw[asc,asc,ar9,ar9];split
        ·have l2:(ds.take (i*2)++[Value.int .u32 bp,Value.slice sa bn sc]).length=(i+1)*2:=by rw[ary,lt];simp;omega
         rw[arK ab,asc,l2];congr 1;simp;omega
        ·rfl
       rw[e5];exact h4
      ·exact(HR2.keep q2 K _ _ _ an (bB HG2 HKr)).trans (bB HG2 HKr)
     case measure=>simp[intOf];omega
   ·have ej:j=n:=ab;subst ej;have HT:Hid (bs.take j=bs):=by unfold Hid;rw[<-HL.out,ash]
    have aiW:Hid (Bx wr b1 (bM f t bs) (ds.take (i*2))):=by have:=HB1;rwa[HT.out]at this
    have HLe:Hid ((bM f t bs).length=i):=by have:=HLi;rwa[HT.out]at this
    have hcr:∀ty,(Builtin.clear_ #[52] ty #[slice (some ⟨g,i*2,none⟩) (j-i) (cap-i)]).run prog wr=.ok (tuple #[]) (wr.setCells g (i*2) (Ke (j-i))):=fun ty=>
     vC wr _ _ ty underlying52 Tryz.zeroValue64 g (i*2) (j-i) (cap-i) ab (fun z hz=>Du.isS ab) (fun z hz=>Du.fz _)
    have hi0:(0:Int)<=(i:Int):=ab;have hi1:(i:Int)<(j:Int):=ab;clear HB1 HLi HT HB2 Cl;go_wp2_with fail;go_ret;have R3:=Du.set (o:=i*2) (vs:=Ke (j-i)) (by rw[uM];omega);have lt:(ds.take (i*2)).length=i*2:=by rw[ase,Du.out.len];omega
    have e5:(ds.take (i*2)++Ke (j-i)++ds.drop (i*2+(Ke (j-i)).length)).take (i*2)=ds.take (i*2):=by
     rw[asq,asS ab,ar5 ab]
    have q2:Ch g wr (wr.setCells g (i*2) (Ke (j-i))):=chC (Ch.refl g wr) _ _;refine⟨i,_,rfl,HLe,R3.own ab,?_,HQ.trans q2⟩;rw[e5];exact aiW.ch Du q2
end Kc
namespace Kc
variable[Inhabited Hc.bH]
open Mm Ts Hc
variable{pc:Int}{bs:List Bv}
theorem Ja (w)(rm r1 r2)(h:rm<0/\r1=0/\r2=3\/¬rm<0/\64<rm/\r1=0/\r2=3\/¬rm<0/\¬64<rm/\r1=rm/\r2=0):Calls prog 24 #[int i64 rm] w fun e w'=>e=returned (tuple #[agg #[int i64 r1,slice none 0 0,int i64 0,int i64 0],int i64 r2])/\Gr w w':=by
 rcases h with⟨h0,q⟩|⟨h0,h1,q⟩|⟨h0,h1,q⟩
 ·have HE:Hid _:=q;go_enter func24,ntmps24;go_wp2;exact awt (v:=tuple #[agg #[int i64 0,slice none 0 0,int i64 0,int i64 0],int i64 3]) (Hf.gU results24 _ _ _ _ _ (0,0) _ _ rfl rfl (awk w _) underlying54 rfl xB) rfl ⟨by rw[HE.out.1,HE.out.2],(Gr.refl _).alloc _⟩
 ·have HE:Hid _:=q;clear q;go_enter func24,ntmps24;go_wp2;exact awt (v:=tuple #[agg #[int i64 0,slice none 0 0,int i64 0,int i64 0],int i64 3]) (Hf.gU results24 _ _ _ _ _ (0,0) _ _ rfl rfl (awk w _) underlying54 rfl xB) rfl ⟨by rw[HE.out.1,HE.out.2],(Gr.refl _).alloc _⟩
 ·have HE:Hid _:=q;clear q;go_enter func24,ntmps24;go_wp2;exact awt (v:=tuple #[agg #[int i64 rm,slice none 0 0,int i64 0,int i64 0],int i64 0]) (Hf.gU results24 _ _ _ _ _ (0,0) _ _ rfl rfl (awk w _) underlying54 rfl xB) rfl ⟨by rw[HE.out.1,HE.out.2],(Gr.refl _).alloc _⟩
theorem WI (h:place pc bs 0 = -1):x9 pc bs=⟨0,[]⟩:=by unfold x9;rw[h,ak]
theorem WJ {x}(h:place pc bs 0=(j:Int))(hx:bs[j]?=some x):x9 pc bs=x:=by unfold x9;rw[h,eB,arS,List.getD,hx];rfl
theorem WL (w):Bc w ⟨0,[]⟩ (int .u32 0) (slice none 0 0):=⟨rfl,⟨an,an⟩,none,0,0,rfl,⟨rfl,fun i h=>(by cases h),fun h=>absurd h ab⟩,ab⟩
theorem Dv (cap){bs}(B:Bs w ao n bs)(hn:n*32<=140737488351232)(room pu sl pc):Calls prog 109 #[agg #[int i64 room,slice ao n cap,int i64 pu,int i64 sl],int .u32 pc] w fun e w'=>∃x y,e=returned (tuple #[agg #[x,y],.bool (decide (0<=place pc bs 0))])/\Bc w' (x9 pc bs) x y/\Gr w w':=by
 have AT:Hid (∀W:World,_):=fun W=>Oz W pc
 have Qr:Hid (∀(W:World) (K:Nat),Gr w W->W.cell? ⟨K,0,none⟩=some (int .u32 pc)->Calls prog 136 #[slice ao n cap,.func (.func 163) #[] #[pointer (some ⟨K,0,none⟩)]] W fun e w'=>e=returned (int i64 (place pc bs 0))/\Gr W w'):=fun W K G hk=>by
  rw[<-mq];exact OA cap (B.bq.of G) ab K (fun b=>decide (b.pc=pc)) fun W' b sa sc G' _=>IB ((G'.cell _ (by exact awo W _ hk)).trans hk) b.pc sa b.is.length sc
 have HB:=kH B;have HX:Hid (∀W:World,Gr ((w.alloc (.cells #[int i64 room,slice ao n cap,int i64 pu,int i64 sl] 54)).alloc (.cells #[int .u32 0,slice none 0 0] 64)) W->W.cell? ⟨w.heap.size,1,none⟩=some (slice ao n cap)/\W.heap[w.heap.size+1]?=some (.cells #[int .u32 0,slice none 0 0] 64 (0,0))/\Gr w W):=fun W G=>
  ⟨awl _ _ _ _ _ _ (bB (br.trans G) (awk w _)),bB G (Kq w _ _),(((Gr.refl w).alloc _).alloc _).trans G⟩
 have HPB:Hid (place pc bs 0 = -1\/∃(j:Nat) (x:Bv),place pc bs 0=(j:Int)/\j<n/\bs[j]?=some x):=by
  rcases gQ pc bs 0 with h|⟨j,x,h,hx⟩
  ·exact .inl h
  ·rw[arH]at h;exact .inr ⟨j,x,h,by rw[<-HB.out.len];exact(arw.1 hx).1,hx⟩
 rcases HPB with hp|⟨j,b,hp,hj,hb⟩
 ·have HF:=kH (WI hp);rw[hp]at Qr;rw[hp];generalize x9 pc bs=fb at *
  go_enter func109,ntmps109;go_wp2_with fail
  go_region_with (first
   |(go_at_call 137;refine(AT _).mono ?_;rintro e w2 ⟨K,rfl,hk,G2⟩;have HG2:Hid (Gr ((w.alloc (.cells #[int i64 room,slice ao n cap,int i64 pu,int i64 sl] 54)).alloc (.cells #[int .u32 0,slice none 0 0] 64)) w2):=Gr.trans b9 G2;have x1:w2.cell? ⟨w.heap.size,1,none⟩=some (slice ao n cap):=(HX _ HG2).1;clear G2)
   |(go_at_call 136;refine(Qr _ K (HX _ HG2).2.2 hk).mono ?_;rintro e w3 ⟨rfl,G3⟩;have eO:Hid (Gr ((w.alloc (.cells #[int i64 room,slice ao n cap,int i64 pu,int i64 sl] 54)).alloc (.cells #[int .u32 0,slice none 0 0] 64)) w3):=HG2.trans G3;clear G3))
  all_goals
   have y1:=(HX _ eO).2.1;have HY:=kH y1;have c0:w3.cell? ⟨w.heap.size+1,0,none⟩=some (int .u32 0):=awl _ _ _ _ _ _ y1;have c1:w3.cell? ⟨w.heap.size+1,1,none⟩=some (slice none 0 0):=awl _ _ _ _ _ _ y1;have cf:∀j,w3.frozen? ⟨w.heap.size+1,j,none⟩=false:=fun j=>awM _ _ _ _ _ y1
   have LP:=kH ((HX _ eO).2.2);go_wp2_with fail;have e2:=awE _ _ 0 _ _ (int .u32 0) HY;have e3:=awE _ _ 1 _ _ (slice none 0 0) e2;refine awt (v:=tuple #[agg #[int .u32 0,slice none 0 0],.bool false]) (Hf.gU results109 _ _ _ _ _ (0,0) _ _ rfl rfl e3 underlying64 rfl iBk) rfl ?_;have hf:w.heap.size<=w.heap.size+1:=ab;refine⟨int .u32 0,slice none 0 0,rfl,?_,(LP.setCell (by exact hf) _).setCell (by exact hf) _⟩;rw[HF.out];exact WL _
 ·have HF:=kH (WJ hp hb);rw[hp]at Qr;rw[hp];obtain⟨k,o,rfl,hk0,hcell⟩:=HB.spot ab;obtain⟨u,v,p0,p1,hbc⟩:=hcell j b hb;obtain⟨o1,o2,va,vn,vc,rfl⟩:=hbc.ones;have hu:=hbc.1;subst hu;have BQ:=kH hbc.ok;have HCe:Hid (∀W:World,Gr w W->W.cell? ⟨k,o+j*2,none⟩=some (int .u32 b.pc)/\W.cell? ⟨k,o+j*2+1,none⟩=some (slice va vn vc)):=fun W G=>⟨(G.cell _ (by exact hk0)).trans p0,(G.cell _ (by exact hk0)).trans p1⟩
  have CP:Hid (∀W:World,Gr w W->_):=fun W G=>sO (hbc.of G)
  have hj0:(0:Int)<=(j:Int):=ab;have hj1:(j:Int)<(n:Int):=ab;have HBc:Hid (∀(W:World) (v:Value),Io W w.heap.size v b.is->_):=fun W v h=>h.bc BQ
  generalize x9 pc bs=fb at *
  generalize hbp:b.pc=bp at *
  go_enter func109,ntmps109;go_wp2_with fail
  go_region_with (first
   |(go_at_call 137;refine(AT _).mono ?_;rintro e w2 ⟨K,rfl,hk,G2⟩;have HG2:Hid (Gr ((w.alloc (.cells #[int i64 room,slice (some ⟨k,o,none⟩) n cap,int i64 pu,int i64 sl] 54)).alloc (.cells #[int .u32 0,slice none 0 0] 64)) w2):=Gr.trans b9 G2;have x1:w2.cell? ⟨w.heap.size,1,none⟩=some (slice (some ⟨k,o,none⟩) n cap):=(HX _ HG2).1;clear G2)
   |(go_at_call 136;refine(Qr _ K (HX _ HG2).2.2 hk).mono ?_;rintro e w3 ⟨rfl,G3⟩;have eO:Hid (Gr ((w.alloc (.cells #[int i64 room,slice (some ⟨k,o,none⟩) n cap,int i64 pu,int i64 sl] 54)).alloc (.cells #[int .u32 0,slice none 0 0] 64)) w3):=HG2.trans G3;clear G3))
  all_goals
   have y1:=(HX _ eO).2.1;have HY:=kH y1;have x1:=(HX _ eO).1;have LP:=kH ((HX _ eO).2.2);obtain⟨d0,d1⟩:=HCe _ LP;go_wp2_with fail;refine(CP _ LP).mono ?_;rintro e w4 ⟨v4,rfl,I4,G4⟩;have HGx:=kH (LP.trans G4);have HI4:=kH (I4.low LP.size);have y2:=bB G4 HY;have NG:=kH y2;have c0:w4.cell? ⟨w.heap.size+1,0,none⟩=some (int .u32 0):=awl _ _ _ _ _ _ y2;have c1:w4.cell? ⟨w.heap.size+1,1,none⟩=some (slice none 0 0):=awl _ _ _ _ _ _ y2;have cf:∀j,w4.frozen? ⟨w.heap.size+1,j,none⟩=false:=fun j=>awM _ _ _ _ _ y2
   obtain⟨ia,ic,rfl⟩:=I4.shape;generalize b.is.length=iq at *
   go_wp2_with fail;have e2:=awE _ _ 0 _ _ (int .u32 bp) NG;have e3:=awE _ _ 1 _ _ (slice ia iq ic) e2;refine awt (v:=tuple #[agg #[int .u32 bp,slice ia iq ic],.bool true]) (Hf.gU results109 _ _ _ _ _ (0,0) _ _ rfl rfl e3 underlying64 rfl iBk) rfl ?_;have hf:w.heap.size<=w.heap.size+1:=ab;refine⟨int .u32 bp,slice ia iq ic,aq,?_,(HGx.setCell (by exact hf) _).setCell (by exact hf) _⟩;rw[HF.out];refine HBc _ _ (HI4.to fun z c r hz=>?_);have nz:=aa hz NG an;rw[awR _ _ _ _ (by exact nz),awR _ _ _ _ (by exact nz)]
end Kc
end Go.Proofs.YtiadhbmnfjfioaaGreatDoor
