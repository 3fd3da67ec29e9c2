/-
  Eo, Mh, Mr, Ref5a, Hk, Heq, Hw: texts of ours that lie in one file.
-/
import Derived.Test.YtchllaeembmioaaGreatDoorK11
import Derived.Test.YtchllaeembmioaaGreatDoorK02
import Derived.Great.BuildSlice
import Derived.ChangeKeysEq
import Derived.Laws.StructEq
set_option linter.unusedVariables false
set_option linter.unusedSimpArgs false
set_option maxHeartbeats 8000000
set_option maxRecDepth 100000
namespace Go.Proofs.YtchllaeembmioaaGreatDoor.En
open Go.RowKit Mm Wd Mi Bk Ts Kc
open Mc hiding Fit
open Hh hiding Rn

variable {room pu sl : Int} {L : List Bv} {b : Bv} {l : List UInt8} {puts : Nat}
structure Ek (room:Int) (l:List UInt8) (L:List Bv) (pu sl:Int) (puts:Nat):Prop where
 cok:Cok room L
 fresh:∀b∈L,FreshB l b
 cnt:pu+sl+(L.length:Int)=puts
 p0:0≤pu
 s0:0≤sl
theorem Ek.nil (h:0≤room)(l:List UInt8):Ek room l [] 0 0 0:=⟨⟨by simpa using h,List.Pairwise.nil⟩,fun b hb=>(by cases hb),rfl,by omega,by omega⟩
theorem wrap_id {x:Int}(h0:0≤x)(h1:x≤1000000000):wrap64 x=x:=by unfold wrap64;omega
theorem put_none (hp:place b.pc L 0 = -1):putL room L b=(if room<((L++[b]).length:Int) then (L++[b]).drop 1 else L++[b])∧putP room pu L b=(if room<((L++[b]).length:Int) then wrap64 (pu+1) else pu):=by
 unfold putL putP
 rw [hp,rm_none (by omega)]
 exact ⟨rfl,rfl⟩
theorem put_mem {x:Bv}(hp:place b.pc L 0 = -1)(hx:x∈putL room L b):x∈L∨x=b:=by
 rw [(put_none (pu:=0) hp).1] at hx
 have:x∈L++[b]:=by
  split at hx
  ·exact List.mem_of_mem_drop hx
  ·exact hx
 simpa using this
theorem Ek.put (E:Ek room l L pu sl puts)(h0:0≤room)(hb:puts≤1000000)(F:FreshB l b)(hp:place b.pc L 0 = -1):Ek room l (putL room L b) (putP room pu L b) sl (puts+1):=by
 obtain ⟨e1,e2⟩:=put_none (room:=room) (pu:=pu) hp
 have c:=E.cnt
 have p0:=E.p0
 have s0:=E.s0
 refine ⟨(E.cok.put h0 b).1,fun x hx=>?_,?_,?_,s0⟩
 ·rcases put_mem hp hx with h|rfl
  ·exact E.fresh x h
  ·exact F
 ·rw [e1,e2]
  split
  ·rw [wrap_id (by omega) (by omega),List.length_drop,List.length_append,List.length_singleton]
   omega
  ·rw [List.length_append,List.length_singleton]
   omega
 ·rw [e2]
  split
  ·rw [wrap_id (by omega) (by omega)]
   omega
  ·exact p0
def keepS (ss:List (Int×Int)) (L:List Bv):List Bv:=ss.foldl (fun L p=>keepL p.1 (Wd.lo (p.1+p.2)) L) L
theorem keepS_snoc (ss:List (Int×Int))(p:Int×Int)(L:List Bv):keepS (ss++[p]) L=keepL p.1 (Wd.lo (p.1+p.2)) (keepS ss L):=by
 unfold keepS
 rw [List.foldl_append]
 rfl
theorem keepS_sub:∀(ss:List (Int×Int)) (L:List Bv),(keepS ss L).Sublist L
 | [],L=>List.Sublist.refl _
 | p::r,L=>(keepS_sub r _).trans List.filter_sublist
theorem keepS_no:∀(ss:List (Int×Int)) (L:List Bv),∀b∈keepS ss L,∀p∈ss,hasB b p.1 (Wd.lo (p.1+p.2))=false
 | [],L,b,hb,p,hp=>by cases hp
 | q::r,L,b,hb,p,hp=>by
  rcases List.mem_cons.1 hp with rfl|hp
  ·exact keep_no b ((keepS_sub r _).subset hb)
  ·exact keepS_no r _ b hb p hp
theorem keepS_len (ss:List (Int×Int))(p:Int×Int)(L:List Bv):(keepL p.1 (Wd.lo (p.1+p.2)) (keepS ss L)).length≤(keepS ss L).length:=List.length_filter_le _ _
theorem Ek.work {s:Sh}{k c n:Nat}{sl':Int}(E:Ek room s.m L pu sl puts)(hn:n≤4096)(w:WOk (w0 s k) n)(hs:0≤sl')(hc:sl'+((keepS (wk (w0 s k) c).sto L).length:Int)=sl+(L.length:Int)):Ek room (wk (w0 s k) c).m (keepS (wk (w0 s k) c).sto L) pu sl' puts:=by
 have sub:=keepS_sub (wk (w0 s k) c).sto L
 have c0:=E.cnt
 refine ⟨⟨?_,E.cok.sole.sub sub⟩,fun b hb=>?_,by omega,E.p0,hs⟩
 ·have:=sub.length_le
  have:=E.cok.len
  omega
 ·exact fresh_work hn w (E.fresh b (sub.subset hb)) (keepS_no _ L b hb)
theorem Ek.same (E:Ek room l L pu sl puts)(hr:room≤64):L.length≤64:=by
 have:=E.cok.len
 omega
theorem pl_in {i:Nat}(h:L[i]?=some b):0≤place b.pc L 0:=by
 rcases place_bd b.pc L 0 with h2|⟨j,x,h2,_⟩
 ·exfalso
  have:∀(l:List Bv) (k i:Nat),l[i]?=some b→0≤place b.pc l k:=by
   intro l
   induction l with
   | nil=>intro k i h;simp at h
   | cons c r ih=>
    intro k i h
    unfold place
    split
    ·omega
    ·rename_i hc
     cases i with
     | zero=>simp at h;subst h;exact absurd rfl hc
     | succ i=>exact ih (k+1) i (by simpa using h)
  have:=this L 0 i h
  omega
 ·omega
theorem Ek.found (E:Ek room l L pu sl puts){pc:Int}(h:0≤place pc L 0):fnd pc L∈L∧(fnd pc L).pc=pc∧FreshB l (fnd pc L):=by
 rcases place_bd pc L 0 with h2|⟨j,x,h2,hx⟩
 ·omega
 ·obtain ⟨b,hb,hpc⟩:=place_split (k:=0) h2
  have e:fnd pc L=b:=by
   unfold fnd
   rw [if_pos h,h2,show (((0+j:Nat):Int)).toNat=j by omega,List.getD,hb]
   rfl
  have hm:=List.mem_of_getElem? hb
  rw [e]
  exact ⟨hm,hpc,E.fresh b hm⟩
structure Kept (room:Int) (l:List UInt8) (D:Prop) (L:List Bv) (pu sl:Int):Prop where
 cok:Cok room L
 fresh:∀b∈L,FreshB l b
 some:room=64→D→L≠[]∨¬pu=0∨¬sl=0
def DidF (m:List UInt8) (hs:List Hv) (ps:List (Int×Int)):Prop:=∃(p:Int×Int) (h:Hv),ps[0]?=some p∧0<p.2∧hs[p.1.toNat]?=some h∧h.state=0∧0<(blk m h.pc 16 0).length
end Go.Proofs.YtchllaeembmioaaGreatDoor.En
namespace Go.Proofs.YtchllaeembmioaaGreatDoor.Mc
open Go.ChangeShapes Go.WideShapes Go.ChangeAt Go.RowKit Mm Hh

variable {w w' : World} {ao : Option Addr} {n : Nat} {α : Type}
structure Hs (w:World) (ao:Option Addr) (n:Nat) (hs:List Hv):Prop where
 len:hs.length=n
 ok:∀h∈hs,h.Ok
 spot:0<n→∃b o,ao=some ⟨b,o,none⟩∧b<w.heap.size∧∀i h,hs[i]?=some h→w.rangeAt b (o+i*37) (hL h)
structure Ps (w:World) (ao:Option Addr) (n:Nat) (ps:List (Int×Int)):Prop where
 len:ps.length=n
 spot:0<n→∃b o,ao=some ⟨b,o,none⟩∧b<w.heap.size∧∀i p,ps[i]?=some p→w.cell? ⟨b,o+i*2,none⟩=some (.int .i64 p.1)∧w.cell? ⟨b,o+i*2+1,none⟩=some (.int .i64 p.2)
theorem Hs.of {hs:List Hv}(h:Hs w ao n hs)(g:Gr w w'):Hs w' ao n hs:=
 ⟨h.len,h.ok,fun hn=>by
  obtain ⟨b,o,e,hb,hc⟩:=h.spot hn
  exact ⟨b,o,e,Nat.lt_of_lt_of_le hb g.size,fun i q hq j v hv=>(g.cell _ (by exact hb)).trans (hc i q hq j v hv)⟩⟩
theorem Ps.of {ps:List (Int×Int)}(h:Ps w ao n ps)(g:Gr w w'):Ps w' ao n ps:=
 ⟨h.len,fun hn=>by
  obtain ⟨b,o,e,hb,hc⟩:=h.spot hn
  exact ⟨b,o,e,Nat.lt_of_lt_of_le hb g.size,fun i q hq=>⟨(g.cell _ (by exact hb)).trans (hc i q hq).1,(g.cell _ (by exact hb)).trans (hc i q hq).2⟩⟩⟩
def pickOk (c:Nat) (p:Int×Int):Bool:=decide (0≤p.1∧p.1<c∧0≤p.2∧p.2≤400)
def wrong (m:List UInt8) (hs:List Hv) (ps:List (Int×Int)):Int:=
 if 4096<m.length∨hs.length<1∨4<hs.length then 2 else if hs.all may=false then 2 else if 300<ps.length then 1 else if ps.all (pickOk hs.length)=false then 3 else 0
theorem all_take (f:α→Bool)(l:List α)(k:Nat)(x:α)(h:l[k]?=some x):(l.take (k+1)).all f=((l.take k).all f && f x):=by
 rw [List.take_add_one,h]
 simp
theorem all_false {f:α→Bool}{l:List α}{k:Nat}{x:α}(h:l[k]?=some x)(hx:f x=false):l.all f=false:=by
 rw [List.all_eq_false]
 exact ⟨x,List.mem_of_getElem? h,by simp [hx]⟩
end Go.Proofs.YtchllaeembmioaaGreatDoor.Mc
namespace Go.Proofs.YtchllaeembmioaaGreatDoor.Mc
open Go.ChangeShapes Go.WideShapes Go.ChangeAt Go.RowKit Mm Hh

variable {w : World} {g i j n : Nat} {hs : List Hv} {h h' : Hv}
def hC (hs:List Hv):List Value:=hs.flatMap hL
theorem hC_len:∀{hs:List Hv},(∀h∈hs,h.Ok)→(hC hs).length=hs.length*37
 | [],_=>rfl
 | h::r,o=>by
  have ih:=hC_len (hs:=r) (fun q hq=>o q (by simp [hq]))
  unfold hC at ih ⊢
  simp only [List.flatMap_cons,List.length_append,List.length_cons,hL_len (o h (by simp)),ih]
  omega
theorem hC_get:∀{hs:List Hv},(∀h∈hs,h.Ok)→∀{i j:Nat} {h:Hv},hs[i]?=some h→j<37→(hC hs)[i*37+j]?=(hL h)[j]?
 | [],_,i,j,h,hi,_=>by simp at hi
 | q::r,o,0,j,h,hi,hj=>by
  simp at hi
  subst hi
  unfold hC
  rw [List.flatMap_cons,Nat.zero_mul,Nat.zero_add,List.getElem?_append_left (by rw [hL_len (o q (by simp))];exact hj)]
 | q::r,o,i+1,j,h,hi,hj=>by
  have ih:=hC_get (hs:=r) (fun q hq=>o q (by simp [hq])) (i:=i) (j:=j) (h:=h) (by simpa using hi) hj
  have lq:=hL_len (o q (by simp))
  unfold hC at ih ⊢
  rw [List.flatMap_cons,List.getElem?_append_right (by omega),lq,←ih]
  congr 1
  omega
theorem hC_set:∀{hs:List Hv},(∀h∈hs,h.Ok)→∀{i j:Nat} {h h':Hv} {v:Value},hs[i]?=some h→j<37→(hL h).set j v=hL h'→(hC hs).set (i*37+j) v=hC (hs.set i h')
 | [],_,i,j,h,h',v,hi,_,_=>by simp at hi
 | q::r,o,0,j,h,h',v,hi,hj,e=>by
  simp at hi
  subst hi
  unfold hC
  rw [List.flatMap_cons,Nat.zero_mul,Nat.zero_add,List.set_append_left _ _ (by rw [hL_len (o q (by simp))];exact hj),e]
  rfl
 | q::r,o,i+1,j,h,h',v,hi,hj,e=>by
  have ih:=hC_set (hs:=r) (fun q hq=>o q (by simp [hq])) (i:=i) (j:=j) (h:=h) (h':=h') (v:=v) (by simpa using hi) hj e
  have lq:=hL_len (o q (by simp))
  unfold hC at ih ⊢
  rw [List.flatMap_cons,List.set_append_right _ _ (by omega),lq,show (i+1)*37+j-37=i*37+j by omega,ih]
  rfl
structure HRow (w:World) (g:Nat) (hs:List Hv):Prop where
 ok:∀h∈hs,h.Ok
 row:∃rest:List Value,w.heap[g]?=some (.cells (hC hs++rest).toArray 51 (0,0))
theorem HRow.cell (r:HRow w g hs)(hi:hs[i]?=some h)(hj:j<37):w.cell? ⟨g,i*37+j,none⟩=(hL h)[j]?:=by
 obtain ⟨rest,e⟩:=r.row
 have li:i<hs.length:=(List.getElem?_eq_some_iff.1 hi).1
 rw [cr e,List.getElem?_toArray,List.getElem?_append_left (by rw [hC_len r.ok];omega),hC_get r.ok hi hj]
theorem HRow.range (r:HRow w g hs)(hi:hs[i]?=some h):w.rangeAt g (i*37) (hL h):=fun j v hv=>by
 have hj:j<37:=by have:=(List.getElem?_eq_some_iff.1 hv).1;rwa [hL_len (r.ok h (List.mem_of_getElem? hi))] at this
 rw [r.cell hi hj]
 exact hv
theorem HRow.fz (r:HRow w g hs)(j:Nat):w.frozen? ⟨g,j,none⟩=false:=by
 obtain ⟨rest,e⟩:=r.row
 exact frozen_of_row _ _ j _ _ e
theorem HRow.there (r:HRow w g hs)(hi:hs[i]?=some h):w.there g (i*37) 37:=fun j hj=>by
 refine ⟨?_,r.fz _⟩
 rw [r.cell hi hj,List.getElem?_eq_getElem (by rw [hL_len (r.ok h (List.mem_of_getElem? hi))];exact hj)]
 rfl
theorem ok_set (o:∀h∈hs,h.Ok)(i:Nat)(o':h'.Ok):∀h∈hs.set i h',h.Ok:=fun h hm=>by
 rcases List.mem_or_eq_of_mem_set hm with h1|rfl
 ·exact o h h1
 ·exact o'
theorem HRow.set (r:HRow w g hs){v:Value}(hi:hs[i]?=some h)(hj:j<37)(e:(hL h).set j v=hL h')(o':h'.Ok):HRow (w.setCell ⟨g,i*37+j,none⟩ v) g (hs.set i h'):=by
 obtain ⟨rest,q⟩:=r.row
 have li:i<hs.length:=(List.getElem?_eq_some_iff.1 hi).1
 refine ⟨ok_set r.ok i o',rest,?_⟩
 rw [hss q]
 simp only [List.setIfInBounds_toArray]
 rw [List.set_append_left _ _ (by rw [hC_len r.ok];omega),hC_set r.ok hi hj e]
theorem heap_setCells {t:Nat}(g:Nat):∀(vs:List Value) (o:Nat) (w:World) (cs:List Value),w.heap[g]?=some (.cells cs.toArray t (0,0))→o+vs.length≤cs.length→(w.setCells g o vs).heap[g]?=some (.cells (cs.take o++vs++cs.drop (o+vs.length)).toArray t (0,0))
 | [],o,w,cs,h,_=>by simp [World.setCells,h]
 | v::r,o,w,cs,h,hl=>by
  rw [World.setCells]
  have h1:=heap_setCell_same w g o _ _ v h
  simp only [List.setIfInBounds_toArray] at h1
  simp only [List.length_cons] at hl
  rw [heap_setCells g r (o+1) _ (cs.set o v) h1 (by simp;omega)]
  have e1:(cs.set o v).take (o+1)=cs.take o++[v]:=by
   rw [List.take_add_one,List.take_set,List.set_eq_of_length_le (by simp;omega)]
   simp [show o<cs.length by omega]
  have e2:(cs.set o v).drop (o+1+r.length)=cs.drop (o+(r.length+1)):=by
   rw [List.drop_set_of_lt (by omega)]
   congr 1
   omega
  rw [e1,e2]
  simp only [List.length_cons,List.append_assoc,List.cons_append,List.nil_append]
theorem hC_put:∀{hs:List Hv},(∀h∈hs,h.Ok)→∀{i:Nat} {h':Hv},i<hs.length→h'.Ok→(hC hs).take (i*37)++hL h'++(hC hs).drop (i*37+37)=hC (hs.set i h')
 | [],_,i,h',hi,_=>by simp at hi
 | q::r,o,0,h',hi,o'=>by
  have lq:=hL_len (o q (by simp))
  unfold hC
  rw [List.flatMap_cons,Nat.zero_mul,List.take_zero,List.nil_append,Nat.zero_add,List.drop_append,lq,List.drop_eq_nil_of_le (by omega)]
  simp [List.set_cons_zero]
 | q::r,o,i+1,h',hi,o'=>by
  have ih:=hC_put (hs:=r) (fun q hq=>o q (by simp [hq])) (i:=i) (h':=h') (by simpa using hi) o'
  have lq:=hL_len (o q (by simp))
  unfold hC at ih ⊢
  rw [List.flatMap_cons,List.take_append,List.drop_append,lq,List.take_of_length_le (by omega),List.drop_eq_nil_of_le (by omega),List.nil_append,show (i+1)*37-37=i*37 by omega,show (i+1)*37+37-37=i*37+37 by omega,List.set_cons_succ,List.flatMap_cons,←ih]
  simp only [List.append_assoc]
theorem HRow.put (r:HRow w g hs)(hi:i<hs.length)(o':h'.Ok):HRow (w.setCells g (i*37) (hL h')) g (hs.set i h'):=by
 obtain ⟨rest,q⟩:=r.row
 have lc:=hC_len r.ok
 have l':=hL_len o'
 refine ⟨ok_set r.ok i o',rest,?_⟩
 rw [heap_setCells g (hL h') (i*37) w _ q (by rw [List.length_append,lc,l'];omega),l',List.take_append_of_le_length (by rw [lc];omega),List.drop_append_of_le_length (by rw [lc];omega),←hC_put r.ok hi o']
 simp only [List.append_assoc]
theorem HRow.own {base cap:Nat}(o:∀h∈hs,h.Ok)(h:w.ownsRow base 51 37 (.slice (some ⟨g,0,none⟩) n cap) n (hC hs)):HRow w g hs:=by
 obtain ⟨_,hc⟩:=h
 rcases hc with ⟨h0,_⟩|⟨g',cap',cur,hv,hb,hg,hn,hm,hs',htake⟩
 ·cases h0
 ·simp only [Value.slice.injEq,Option.some.injEq,Addr.mk.injEq,true_and,and_true] at hv
  obtain ⟨rfl,rfl⟩:=hv
  refine ⟨o,cur.toList.drop (n*37),?_⟩
  rw [←htake,List.take_append_drop]
  exact hg
theorem hC_one (hs:List Hv):∀u∈hC hs,u.oneCell'=true:=by
 intro u hu
 obtain ⟨h,_,hm⟩:=List.mem_flatMap.1 hu
 have:=Array.all_eq_true_iff_forall_mem.1 (one_hA h) u (by simpa [hA] using hm)
 exact this
theorem Hs.src {ad:Addr}(h:Hs w (some ad) n hs):∀j u,(hC hs)[j]?=some u→w.cell? (ad.add j)=some u:=by
 intro j u hj
 have hl:=hC_len h.ok
 have hjl:j<hs.length*37:=by rw [←hl];exact (List.getElem?_eq_some_iff.1 hj).1
 have hlen:=h.len
 obtain ⟨b,o,e,_,hc⟩:=h.spot (by omega)
 obtain rfl:=Option.some.inj e
 have hi:j/37<hs.length:=by omega
 have e1:hs[j/37]?=some hs[j/37]:=List.getElem?_eq_getElem hi
 have g:=hC_get h.ok (j:=j%37) e1 (by omega)
 rw [show j/37*37+j%37=j by omega,hj] at g
 have:=hc _ _ e1 (j%37) u g.symm
 rw [add_at]
 rwa [show o+j/37*37+j%37=o+j by omega] at this
end Go.Proofs.YtchllaeembmioaaGreatDoor.Mc
namespace Go.Proofs.YtchllaeembmioaaGreatDoor.Mc
open Go.ChangeShapes Go.WideShapes Go.ChangeAt Go.RowKit Mm Hh

theorem iH:(Tryz.prog.info? 51).map (·.size)=some 37:=by kernel_rfl
theorem Wrong_any (hmay:∀(h:Hv),h.Ok→∀W:World,Calls Tryz.prog 16 #[.agg (hA h)] W fun e w'=>e=.returned (.bool (may h))∧Gr W w')
  {ma ha pa:Option Addr}{hn pn:Nat}(mc hc pc:Nat){m:List UInt8}{hs:List Hv}{ps:List (Int×Int)}{w:World}(mn:Nat)(hmn:m.length=mn)(H:Hs w ha hn hs)(P:Ps w pa pn ps)(b1:mn≤140737488351232)(b2:hn≤140737488351232)(b3:pn≤140737488351232):
  Calls Tryz.prog 6 #[.agg #[.slice ma mn mc,.slice ha hn hc],.slice pa pn pc] w fun e w'=>e=.returned (.int .i64 (wrong m hs ps))∧Gr w w':=by
 have hl:=H.len
 have pl:=P.len
 by_cases c1:4096<mn∨hn<1∨4<hn
 ·have HE:Hid (wrong m hs ps=2):=by unfold Hid wrong;rw [if_pos (by omega)]
  clear H P hmay
  have c2:4096<mn∨(¬4096<mn∧hn<1)∨(¬4096<mn∧¬hn<1∧4<hn):=by omega
  clear c1
  rcases c2 with c|⟨c,d⟩|⟨c,d,e⟩
  all_goals
   go_enter Tryz.func6,Tryz.ntmps6
   go_wp2
   go_ret
   exact ⟨ret_int HE.out.symm,(Gr.refl _).alloc _⟩
 ·have n1:¬4096<mn:=by omega
  have n2:¬hn<1:=by omega
  have n3:¬4<hn:=by omega
  obtain ⟨b,o,rfl,hb,hcell⟩:=H.spot (by omega)
  have HW:Hid (wrong m hs ps=if hs.all may=false then 2 else if 300<ps.length then 1 else if ps.all (pickOk hs.length)=false then 3 else 0):=by unfold Hid wrong;rw [if_neg (by omega)]
  have HK:Hid (∀i h,hs[i]?=some h→w.rangeAt b (o+i*37) (hL h)):=hcell
  have HO:Hid (∀h∈hs,h.Ok):=H.ok
  have HP:Hid (Ps w pa pn ps):=P
  have HM:Hid (∀(h:Hv),h.Ok→∀W:World,Calls Tryz.prog 16 #[.agg (hA h)] W fun e w'=>e=.returned (.bool (may h))∧Gr W w'):=hmay
  have HL:Hid (hs.length=hn):=hl
  have PL:Hid (ps.length=pn):=pl
  clear hcell H P hmay c1 hl pl hmn
  go_enter Tryz.func6,Tryz.ntmps6
  go_wp2
  go_loopw [5] (fun i wr=>∃k:Nat,k≤hn∧i=.int .i64 k∧(hs.take k).all may=true∧Gr (w.alloc (.cells #[.slice ma mn mc,.slice (some ⟨b,o,none⟩) hn hc] 25)) wr) (fun i _=>hn-(intOf i).toNat)
  case atStart=>exact ⟨0,Nat.zero_le _,rfl,rfl,Gr.refl _⟩
  case round=>
   obtain ⟨k,hk,rfl,hall,G⟩:=hrel
   have HB:Hid (wr.heap[w.heap.size]?=some (.cells #[.slice ma mn mc,.slice (some ⟨b,o,none⟩) hn hc] 25 (0,0))):=(G.block _ (by simp)).trans (heap_alloc_new w _)
   have k1:wr.cell? ⟨w.heap.size,1,none⟩=some (.slice (some ⟨b,o,none⟩) hn hc):=cell_of_row _ _ _ _ _ _ HB.out
   have HG:Hid (Gr (w.alloc (.cells #[.slice ma mn mc,.slice (some ⟨b,o,none⟩) hn hc] 25)) wr):=G
   have HA:Hid ((hs.take k).all may=true):=hall
   clear G hall
   by_cases hlt:k<hn
   ·obtain ⟨h,hh⟩:∃h,hs[k]?=some h:=⟨_,List.getElem?_eq_getElem (by rw [HL.out];exact hlt)⟩
    have HH:Hid (hs[k]?=some h):=hh
    have okh:=HO.out h (List.mem_of_getElem? hh)
    have RG:Hid (wr.rangeAt b (o+k*37) (hL h)):=fun j v hv=>(HG.out.cell _ (by simp;omega)).trans (((Gr.refl w).alloc _).cell _ (by exact hb) |>.trans (HK.out k h hh j v hv))
    have HLL:Hid ((hL h).length=37):=hL_len okh
    have M1:Hid (∀W:World,Calls Tryz.prog 16 #[.agg (hL h).toArray] W fun e w'=>e=.returned (.bool (may h))∧Gr W w'):=fun W=>HM.out h okh W
    clear hh okh
    cases hmb:may h with
    | true=>
     have M2:Hid (∀W:World,Calls Tryz.prog 16 #[.agg (hL h).toArray] W fun e w'=>e=.returned (.bool true)∧Gr W w'):=fun W=>by have:=M1.out W;rwa [hmb] at this
     have HN:Hid ((hs.take (k+1)).all may=true):=by unfold Hid;rw [all_take may hs k h HH.out,HA.out,hmb];rfl
     clear M1 hmb
     go_wp2_with (refine wpList_load_mid rfl 51 _ rfl b (o+k*37) rfl (hL h) _ ?r1 Tryz.underlying51 rfl (by rw [HLL.out];exact iH) ?_;(case r1=>exact RG.out))
     refine (M2.out _).mono ?_
     rintro e w1 ⟨rfl,G1⟩
     have HG1:Hid (Gr (w.alloc (.cells #[.slice ma mn mc,.slice (some ⟨b,o,none⟩) hn hc] 25)) w1):=HG.out.trans G1
     clear G1 M2 k1 HG HB RG
     go_wp2_with fail
     go_roundw
     case rel=>exact ⟨k+1,by omega,by go_num,HN.out,HG1.out⟩
     case measure=>simp [intOf];omega
    | false=>
     have M2:Hid (∀W:World,Calls Tryz.prog 16 #[.agg (hL h).toArray] W fun e w'=>e=.returned (.bool false)∧Gr W w'):=fun W=>by have:=M1.out W;rwa [hmb] at this
     have HE:Hid (wrong m hs ps=2):=by unfold Hid;rw [HW.out,if_pos (all_false HH.out hmb)]
     clear M1 hmb
     go_wp2_with (refine wpList_load_mid rfl 51 _ rfl b (o+k*37) rfl (hL h) _ ?r1 Tryz.underlying51 rfl (by rw [HLL.out];exact iH) ?_;(case r1=>exact RG.out))
     refine (M2.out _).mono ?_
     rintro e w1 ⟨rfl,G1⟩
     have HG1:Hid (Gr w w1):=((Gr.refl _).alloc _).trans (HG.out.trans G1)
     clear G1 M2 k1 HG HB RG
     go_wp2_with fail
     go_ret
     exact ⟨ret_int HE.out.symm,HG1.out⟩
   ·have ek:k=hn:=by omega
    have HAll:Hid (hs.all may=true):=by have:=HA.out;rw [ek,←HL.out,List.take_length] at this;exact this
    have HW2:Hid (wrong m hs ps=if 300<ps.length then 1 else if ps.all (pickOk hs.length)=false then 3 else 0):=by unfold Hid;rw [HW.out,HAll.out,if_neg (by simp)]
    have HG1:Hid (Gr w wr):=((Gr.refl _).alloc _).trans HG.out
    clear ek HA HW HAll
    by_cases c3:300<pn
    ·have HE:Hid (wrong m hs ps=1):=by unfold Hid;rw [HW2.out,PL.out,if_pos c3]
     go_wp2_with fail
     go_ret
     exact ⟨ret_int HE.out.symm,HG1.out⟩
    ·have HW3:Hid (wrong m hs ps=if ps.all (pickOk hn)=false then 3 else 0):=by unfold Hid;rw [HW2.out,PL.out,HL.out,if_neg c3]
     clear HW2
     by_cases p0:pn=0
     ·subst p0
      have HE:Hid (wrong m hs ps=0):=by
       have:ps=[]:=List.eq_nil_of_length_eq_zero PL.out
       unfold Hid;rw [HW3.out,this];rfl
      go_wp2_with fail
      go_loopw [6] (fun i wq=>i=.int .i64 0∧wq=wr) (fun _ _=>0)
      case atStart=>exact ⟨rfl,rfl⟩
      case round=>
       obtain ⟨rfl,rfl⟩:=hrel
       go_wp2
       go_ret
       exact ⟨ret_int HE.out.symm,HG1.out⟩
     ·obtain ⟨b',o',rfl,hb',hcell'⟩:=HP.out.spot (by omega)
      have HC:Hid (∀i p,ps[i]?=some p→wr.cell? ⟨b',o'+i*2,none⟩=some (.int .i64 p.1)∧wr.cell? ⟨b',o'+i*2+1,none⟩=some (.int .i64 p.2)):=fun i p hp=>⟨(HG1.out.cell _ (by exact hb')).trans (hcell' i p hp).1,(HG1.out.cell _ (by exact hb')).trans (hcell' i p hp).2⟩
      clear hcell'
      go_wp2_with fail
      go_loopw [6] (fun i wq=>∃j:Nat,j≤pn∧i=.int .i64 j∧(ps.take j).all (pickOk hn)=true∧∃q,wq=wr.drewN q) (fun i _=>pn-(intOf i).toNat)
      case atStart=>exact ⟨0,Nat.zero_le _,rfl,rfl,0,rfl⟩
      case round=>
       obtain ⟨j,hj,rfl,hall,q,rfl⟩:=hrel
       have HA:Hid ((ps.take j).all (pickOk hn)=true):=hall
       clear hall
       by_cases hlt2:j<pn
       ·obtain ⟨p,hp⟩:∃p,ps[j]?=some p:=⟨_,List.getElem?_eq_getElem (by rw [PL.out];exact hlt2)⟩
        obtain ⟨q0,q1⟩:=HC.out j p hp
        have HE:Hid (¬(0≤p.1∧p.1<hn∧0≤p.2∧p.2≤400)→wrong m hs ps=3):=fun hno=>by rw [HW3.out,if_pos (all_false hp (by unfold pickOk;exact decide_eq_false hno))]
        have HN:Hid ((0≤p.1∧p.1<hn∧0≤p.2∧p.2≤400)→(ps.take (j+1)).all (pickOk hn)=true):=fun hy=>by
         rw [all_take _ ps j p hp,HA.out,show pickOk hn p=true by unfold pickOk;exact decide_eq_true hy];rfl
        clear hp
        obtain ⟨x,y⟩:=p
        simp only at *
        have hc:x<0∨(¬x<0∧(hn:Int)≤x)∨(¬x<0∧¬(hn:Int)≤x∧y<0)∨(¬x<0∧¬(hn:Int)≤x∧¬y<0∧400<y)∨(¬x<0∧¬(hn:Int)≤x∧¬y<0∧¬400<y):=by omega
        rcases hc with h1|⟨h1,h2⟩|⟨h1,h2,h3⟩|⟨h1,h2,h3,h4⟩|⟨h1,h2,h3,h4⟩
        ·have d1:decide (x<0)=true:=by simpa using h1
         go_wp2_with fail
         go_quiet (fail)
         go_wp2_with fail
         go_ret
         exact ⟨ret_int (HE.out (by omega)).symm,(HG1.out.drewN _).drewN _⟩
        ·have d1:decide (x<0)=false:=by simpa using h1
         have d2:decide ((hn:Int)≤x)=true:=by simpa using h2
         go_wp2_with fail
         go_quiet (fail)
         go_wp2_with fail
         go_ret
         exact ⟨ret_int (HE.out (by omega)).symm,(HG1.out.drewN _).drewN _⟩
        ·have d1:decide (x<0)=false:=by simpa using h1
         have d2:decide ((hn:Int)≤x)=false:=by simpa using h2
         have d3:decide (y<0)=true:=by simpa using h3
         go_wp2_with fail
         go_quiet (fail)
         go_wp2_with fail
         go_ret
         exact ⟨ret_int (HE.out (by omega)).symm,(HG1.out.drewN _).drewN _⟩
        ·have d1:decide (x<0)=false:=by simpa using h1
         have d2:decide ((hn:Int)≤x)=false:=by simpa using h2
         have d3:decide (y<0)=false:=by simpa using h3
         have d4:decide (400<y)=true:=by simpa using h4
         go_wp2_with fail
         go_quiet (fail)
         go_wp2_with fail
         go_ret
         exact ⟨ret_int (HE.out (by omega)).symm,(HG1.out.drewN _).drewN _⟩
        ·have d1:decide (x<0)=false:=by simpa using h1
         have d2:decide ((hn:Int)≤x)=false:=by simpa using h2
         have d3:decide (y<0)=false:=by simpa using h3
         have d4:decide (400<y)=false:=by simpa using h4
         go_wp2_with fail
         go_quiet (fail)
         go_wp2_with fail
         go_roundw
         case rel=>exact ⟨j+1,by omega,by go_num,HN.out (by omega),_,rfl⟩
         case measure=>simp [intOf];omega
       ·have HE:Hid (wrong m hs ps=0):=by
         have e:(ps.take j).all (pickOk hn)=true:=HA.out
         rw [show j=pn by omega,←PL.out,List.take_length] at e
         unfold Hid;rw [HW3.out,e];rfl
        go_wp2
        go_ret
        exact ⟨ret_int HE.out.symm,HG1.out.drewN _⟩
end Go.Proofs.YtchllaeembmioaaGreatDoor.Mc
namespace Go.Proofs.YtchllaeembmioaaGreatDoor.Hc
open Go.ChangeShapes Go.WideShapes Go.ChangeAt Go.RowKit Mm Hh

variable {P : Program} {t : TypeId} {h : Hv} {ops : Array Oper} {o : Oper} {a : Act} {w : World} {K : Act → World → Prop} {Q : Exit → Act → World → Prop} {E : Prop}
theorem fold_set (off:Nat)(v cs:Array Value):(v.zipIdx.foldl (fun cs (x:Value×Nat)=>cs.setIfInBounds (off+x.2) x.1) cs).size=cs.size∧
  ∀k,(v.zipIdx.foldl (fun cs (x:Value×Nat)=>cs.setIfInBounds (off+x.2) x.1) cs)[k]?=if off≤k∧k<off+v.size∧k<cs.size then v[k-off]? else cs[k]?:=by
 have h:=Great.foldl_set off v.toList 0 cs
 rw [←Array.foldl_toList,Array.toList_zipIdx]
 refine ⟨h.1,fun k=>?_⟩
 rw [h.2 k]
 simp
theorem built_two {it:TypeInfo}{z:Value}{fs:Array Field}{ps:List (Nat×Nat)}(hi:P.info? t=some it)(hu:P.underlying t=some (.struct fs))(hz:it.zero=some z)
  (hp:fs.toList.mapM (fun f=>(P.info? f.type).map fun i=>(f.offset,i.size))=some ps){n:Nat}(p0:ps.toArray[0]?=some (0,n))(p1:ps.toArray[1]?=some (n,1))(A:Array Value)(hA:A.size=n)(v:Value)(hv:v.cells=#[v])(hs:n+1≤z.cells.size)
  (R:Array Value)(hR:R.size=z.cells.size)(h1:∀k,k<n→R[k]?=A[k]?)(h2:R[n]?=some v)(h3:∀k,n<k→R[k]?=z.cells[k]?):P.built t [(0,.agg A),(1,v)]=some R:=by
 unfold Program.built
 simp only [hi,hu,hz,hp]
 have a1:=fold_set 0 A z.cells
 have a2:=fold_set n #[v] (A.zipIdx.foldl (fun cs (x:Value×Nat)=>cs.setIfInBounds (0+x.2) x.1) z.cells)
 unfold Instr.fill
 simp only [p0]
 have e:(Value.agg A).cells=A:=rfl
 rw [e,if_neg (by simp [hA];omega)]
 unfold Instr.fill
 simp only [p1]
 rw [hv,if_neg (by rw [a1.1];simp;omega)]
 unfold Instr.fill
 congr 1
 apply Array.ext_getElem?
 intro k
 rw [a2.2 k,a1.2 k,a1.1]
 by_cases hk:k<n
 ·rw [if_neg (by omega),if_pos (by omega),h1 k hk];simp
 ·by_cases hk2:k=n
  ·subst hk2
   rw [if_pos (by simp;omega),h2];simp
  ·rw [if_neg (by simp;omega),if_neg (by omega),h3 k (by omega)]
theorem info_zero {v:Value}(h:(P.info? t).bind (·.zero)=some v):∃it,P.info? t=some it∧it.zero=some v:=by
 cases hi:P.info? t with
 | none=>simp [hi] at h
 | some it=>exact ⟨it,rfl,by simpa [hi] using h⟩
def h0:Hv:=⟨List.replicate 32 0,0,false,0,0,0⟩
theorem h0_ok:h0.Ok:=⟨rfl,fun i=>by unfold rg h0;simp only [List.getD,List.getElem?_replicate];split<;>simp,by decide,by decide,by decide,by decide⟩
def nilS:Value:=.slice none 0 0
theorem one_cA (c:Cv)(h1:c.m.oneCell'=true)(h2:c.out.oneCell'=true)(h3:c.sto.oneCell'=true):(cA c).all (·.oneCell')=true:=by
 refine all_oneCell_toArray ?_
 intro v hv
 simp only [hL,List.mem_append,List.mem_map,List.mem_cons,List.not_mem_nil,or_false] at hv
 rcases hv with (⟨n,_,rfl⟩|rfl|rfl|rfl|rfl|rfl)|rfl|rfl|rfl<;>first|rfl|assumption
theorem zCore:(Tryz.prog.info? 115).bind (·.zero)=some (.agg (cA ⟨h0,nilS,nilS,nilS⟩)):=by kernel_rfl
theorem zDid:(Tryz.prog.info? 71).bind (·.zero)=some (.agg (dA ⟨h0,nilS,nilS,0,0⟩)):=by kernel_rfl
theorem built_core (o:h.Ok)(v:Value)(hv:v.cells=#[v]):Tryz.prog.built 115 [(0,.agg (hA h)),(1,v)]=some (cA ⟨h,v,nilS,nilS⟩):=by
 obtain ⟨it,hi,hz⟩:=info_zero zCore
 have hl:=hL_len o
 have z:=hL_len h0_ok
 refine built_two (n:=37) hi Tryz.underlying115 hz (ps:=[(0,37),(37,1),(38,1),(39,1)]) (by kernel_rfl) rfl rfl (hA h) (hA_size o) v hv (by show 38≤(cA _).size;rw [cA_size h0_ok];omega) _ ?_ ?_ ?_ ?_
 ·show (cA _).size=(cA _).size;rw [cA_size (c:=⟨h,v,nilS,nilS⟩) o,cA_size h0_ok]
 ·intro k hk;rw [cA_get (c:=⟨h,v,nilS,nilS⟩) o hk];simp [hA]
 ·exact cA_fld (c:=⟨h,v,nilS,nilS⟩) o 0
 ·intro k hk
  obtain ⟨j,rfl⟩:∃j,k=37+(j+1):=⟨k-38,by omega⟩
  show (cA _)[_]?=(cA _)[_]?
  rw [cA_fld (c:=⟨h,v,nilS,nilS⟩) o,cA_fld (c:=⟨h0,nilS,nilS,nilS⟩) h0_ok]
  rfl
theorem built_did (o:h.Ok)(v:Value)(hv:v.cells=#[v]):Tryz.prog.built 71 [(0,.agg (hA h)),(1,v)]=some (dA ⟨h,v,nilS,0,0⟩):=by
 obtain ⟨it,hi,hz⟩:=info_zero zDid
 have hl:=hL_len o
 have z:=hL_len h0_ok
 refine built_two (n:=37) hi Tryz.underlying71 hz (ps:=[(0,37),(37,1),(38,1),(39,1),(40,1)]) (by kernel_rfl) rfl rfl (hA h) (hA_size o) v hv (by show 38≤(dA _).size;rw [dA_size h0_ok];omega) _ ?_ ?_ ?_ ?_
 ·show (dA _).size=(dA _).size;rw [dA_size (d:=⟨h,v,nilS,0,0⟩) o,dA_size h0_ok]
 ·intro k hk;rw [dA_get (d:=⟨h,v,nilS,0,0⟩) o hk];simp [hA]
 ·exact dA_fld (d:=⟨h,v,nilS,0,0⟩) o 0
 ·intro k hk
  obtain ⟨j,rfl⟩:∃j,k=37+(j+1):=⟨k-38,by omega⟩
  show (dA _)[_]?=(dA _)[_]?
  rw [dA_fld (d:=⟨h,v,nilS,0,0⟩) o,dA_fld (d:=⟨h0,nilS,nilS,0,0⟩) h0_ok]
  rfl
theorem step_load (hg:o.guard=none)(ty:TypeId)(x:Operand)(ho:o.op=.load ty x)
  (b:Nat)(hx:a.eval x=.pointer (some ⟨b,0,none⟩))(cs:List Value)(d:TypeDesc)(hc:w.rangeAt b 0 cs)(hu:P.underlying ty=some d)(hd:d.isRow=true)(hi:(P.info? ty).map (·.size)=some cs.length)
  (h:K (a.put o.dst (.agg cs.toArray)) w):if Region.wanted o (yielded ops a.tmps)=true then Oper.wp P o a w K Q else E:=by
 rw [if_pos (by simp [Region.wanted,hg])]
 exact wp_load_mid ty x ho b 0 hx cs d hc hu hd hi h
theorem step_load_row (hgd:o.guard=none)(ty:TypeId)(x:Operand)(ho:o.op=.load ty x)
  (g:Nat)(hx:a.eval x=.pointer (some ⟨g,0,none⟩))(t:TypeId)(cs:Array Value)(fr:Nat×Nat)(d:TypeDesc)(hg:w.heap[g]?=some (.cells cs t fr))
  (hu:P.underlying ty=some d)(hd:(match d with|.struct _|.array _ _=>true|_=>false)=true)(hi:(P.info? ty).map (·.size)=some cs.size)
  (h:K (a.put o.dst (.agg cs)) w):if Region.wanted o (yielded ops a.tmps)=true then Oper.wp P o a w K Q else E:=by
 rw [if_pos (by simp [Region.wanted,hgd])]
 exact wp_load_row ty x ho g hx t cs fr d hg hu hd hi h
theorem step_build (hg:o.guard=none)(t:TypeId)(parts:Array (Nat×Operand))(ho:o.op=.build t parts)
  (cells:Array Value)(hf:P.built t (parts.map fun (i,x)=>(i,a.eval x)).toList=some cells)(h:K (a.put o.dst (.agg cells)) w):if Region.wanted o (yielded ops a.tmps)=true then Oper.wp P o a w K Q else E:=by
 rw [if_pos (by simp [Region.wanted,hg])]
 unfold Oper.wp execOp
 simp only [ho,Sem.run_bind,run_build w t _ _ hf,Result.andThen_ok]
 exact h
theorem step_store (hg:o.guard=none)(ty:TypeId)(x y:Operand)(ho:o.op=.store ty x y)
  (g:Nat)(cells:Array Value)(hx:a.eval x=.pointer (some ⟨g,0,none⟩))(hy:a.eval y=.agg cells)(t:TypeId)(old:Array Value)(hb:w.heap[g]?=some (.cells old t (0,0)))(hi:(P.info? ty).map (·.size)=some cells.size)
  (hold:old.size=cells.size)(h1:cells.all (·.oneCell')=true)(h:K (a.put o.dst undef) (w.setRow g cells)):if Region.wanted o (yielded ops a.tmps)=true then Oper.wp P o a w K Q else E:=by
 rw [if_pos (by simp [Region.wanted,hg])]
 unfold Oper.wp execOp
 simp only [ho,hx,hy,Instr.storeAt,Instr.sureAddr,Sem.run_bind,Sem.run_pure,Result.andThen_ok,run_storeVar_row w g t ty old cells hb hi hold h1]
 exact h
end Go.Proofs.YtchllaeembmioaaGreatDoor.Hc
namespace Go.Proofs.YtchllaeembmioaaGreatDoor.Hc
open Go.ChangeShapes Go.WideShapes Go.ChangeAt Go.RowKit Mm Hh

theorem list32 {l:List Int}(h:l.length=32):∃a0 a1 a2 a3 a4 a5 a6 a7 a8 a9 b0 b1 b2 b3 b4 b5 b6 b7 b8 b9 c0 c1 c2 c3 c4 c5 c6 c7 c8 c9 d0 d1,l=[a0,a1,a2,a3,a4,a5,a6,a7,a8,a9,b0,b1,b2,b3,b4,b5,b6,b7,b8,b9,c0,c1,c2,c3,c4,c5,c6,c7,c8,c9,d0,d1]:=by
 match l,h with
 | [a0,a1,a2,a3,a4,a5,a6,a7,a8,a9,b0,b1,b2,b3,b4,b5,b6,b7,b8,b9,c0,c1,c2,c3,c4,c5,c6,c7,c8,c9,d0,d1],_=>exact ⟨_,_,_,_,_,_,_,_,_,_,_,_,_,_,_,_,_,_,_,_,_,_,_,_,_,_,_,_,_,_,_,_,rfl⟩
theorem eq_items (d:Nat)(w:World)(xs:Array Value):∀is:List Nat,(∀i∈is,∃a,xs[i*1]?=some (.int .u32 a))→(Op.eqItems (d+1) 42 1 xs xs is).run Tryz.prog w=.ok true w
 | [],_=>by simp [Op.eqItems]
 | i::is,h=>by
  obtain ⟨a,ha⟩:=h i (by simp)
  have hp:Tryz.prog.plainKey 42=true:=by kernel_rfl
  have ih:=eq_items d w xs is (fun j hj=>h j (by simp [hj]))
  simp only [Op.eqItems,Sem.run_bind,run_part_plain w hp ha,Result.andThen_ok,run_equalIn_int w d 42 .u32 .u32 a a Tryz.underlying42,beq_self_eq_true,Bool.not_true,Bool.false_eq_true,if_false]
  exact ih
theorem eq_row (w:World)(xs:Array Value)(h:∀i,i<32→∃a,xs[i]?=some (.int .u32 a)):(Op.equalIn 9999 49 (.agg xs) (.agg xs)).run Tryz.prog w=.ok true w:=by
 obtain ⟨i0,hi,_,_,_⟩:=info_parts (by kernel_rfl:(Tryz.prog.info? 42).map (fun i=>(i.zero,i.size,i.bytes))=some (some (Value.int .u32 0),1,4))
 rw [run_equalIn_array w 9998 xs xs Tryz.underlying49 hi]
 rw [show Tryz.prog.cellsOf 42=1 by kernel_rfl]
 exact eq_items 9997 w xs _ (fun i hm=>by rw [Nat.mul_one];exact h i (List.mem_range.1 hm))
theorem eql_hart {h:Hv}(o:h.Ok)(w:World):(binOp .eql 51 (.agg (hA h)) (.agg (hA h))).run Tryz.prog w=.ok (.bool true) w:=by
 obtain ⟨a0,a1,a2,a3,a4,a5,a6,a7,a8,a9,b0,b1,b2,b3,b4,b5,b6,b7,b8,b9,c0,c1,c2,c3,c4,c5,c6,c7,c8,c9,d0,d1,e⟩:=list32 o.len
 obtain ⟨rs,pc,held,hat,st,cs⟩:=h
 subst e
 show (binOp .eql 51 (.agg #[.int .u32 a0,.int .u32 a1,.int .u32 a2,.int .u32 a3,.int .u32 a4,.int .u32 a5,.int .u32 a6,.int .u32 a7,.int .u32 a8,.int .u32 a9,.int .u32 b0,.int .u32 b1,.int .u32 b2,.int .u32 b3,.int .u32 b4,.int .u32 b5,.int .u32 b6,.int .u32 b7,.int .u32 b8,.int .u32 b9,.int .u32 c0,.int .u32 c1,.int .u32 c2,.int .u32 c3,.int .u32 c4,.int .u32 c5,.int .u32 c6,.int .u32 c7,.int .u32 c8,.int .u32 c9,.int .u32 d0,.int .u32 d1,.int .u32 pc,.bool held,.int .u32 hat,.int .i64 st,.int .i64 cs]) (.agg #[.int .u32 a0,.int .u32 a1,.int .u32 a2,.int .u32 a3,.int .u32 a4,.int .u32 a5,.int .u32 a6,.int .u32 a7,.int .u32 a8,.int .u32 a9,.int .u32 b0,.int .u32 b1,.int .u32 b2,.int .u32 b3,.int .u32 b4,.int .u32 b5,.int .u32 b6,.int .u32 b7,.int .u32 b8,.int .u32 b9,.int .u32 c0,.int .u32 c1,.int .u32 c2,.int .u32 c3,.int .u32 c4,.int .u32 c5,.int .u32 c6,.int .u32 c7,.int .u32 c8,.int .u32 c9,.int .u32 d0,.int .u32 d1,.int .u32 pc,.bool held,.int .u32 hat,.int .i64 st,.int .i64 cs])).run Tryz.prog w=.ok (.bool true) w
 have hr:=eq_row w #[.int .u32 a0,.int .u32 a1,.int .u32 a2,.int .u32 a3,.int .u32 a4,.int .u32 a5,.int .u32 a6,.int .u32 a7,.int .u32 a8,.int .u32 a9,.int .u32 b0,.int .u32 b1,.int .u32 b2,.int .u32 b3,.int .u32 b4,.int .u32 b5,.int .u32 b6,.int .u32 b7,.int .u32 b8,.int .u32 b9,.int .u32 c0,.int .u32 c1,.int .u32 c2,.int .u32 c3,.int .u32 c4,.int .u32 c5,.int .u32 c6,.int .u32 c7,.int .u32 c8,.int .u32 c9,.int .u32 d0,.int .u32 d1] (fun i hi=>by
  match i,hi with
  | 0,_=>exact ⟨_,rfl⟩
  | 1,_=>exact ⟨_,rfl⟩
  | 2,_=>exact ⟨_,rfl⟩
  | 3,_=>exact ⟨_,rfl⟩
  | 4,_=>exact ⟨_,rfl⟩
  | 5,_=>exact ⟨_,rfl⟩
  | 6,_=>exact ⟨_,rfl⟩
  | 7,_=>exact ⟨_,rfl⟩
  | 8,_=>exact ⟨_,rfl⟩
  | 9,_=>exact ⟨_,rfl⟩
  | 10,_=>exact ⟨_,rfl⟩
  | 11,_=>exact ⟨_,rfl⟩
  | 12,_=>exact ⟨_,rfl⟩
  | 13,_=>exact ⟨_,rfl⟩
  | 14,_=>exact ⟨_,rfl⟩
  | 15,_=>exact ⟨_,rfl⟩
  | 16,_=>exact ⟨_,rfl⟩
  | 17,_=>exact ⟨_,rfl⟩
  | 18,_=>exact ⟨_,rfl⟩
  | 19,_=>exact ⟨_,rfl⟩
  | 20,_=>exact ⟨_,rfl⟩
  | 21,_=>exact ⟨_,rfl⟩
  | 22,_=>exact ⟨_,rfl⟩
  | 23,_=>exact ⟨_,rfl⟩
  | 24,_=>exact ⟨_,rfl⟩
  | 25,_=>exact ⟨_,rfl⟩
  | 26,_=>exact ⟨_,rfl⟩
  | 27,_=>exact ⟨_,rfl⟩
  | 28,_=>exact ⟨_,rfl⟩
  | 29,_=>exact ⟨_,rfl⟩
  | 30,_=>exact ⟨_,rfl⟩
  | 31,_=>exact ⟨_,rfl⟩
  | n+32,h=>omega)
 go_simp
end Go.Proofs.YtchllaeembmioaaGreatDoor.Hc
namespace Go.Proofs.YtchllaeembmioaaGreatDoor.Hc
open Go.ChangeShapes Go.WideShapes Go.ChangeAt Go.RowKit Mm Hh

structure Wm (w:World) (ao:Option Addr) (n:Nat) (os:List Int):Prop where
 len:os.length=n
 nil:ao=none→n=0
 cell:∀ad,ao=some ad→∀t,t<n→w.cell? (ad.add t)=some (.int .u32 (os.getD t 0))
theorem Wm.of {w w':World}{ao:Option Addr}{n:Nat}{os:List Int}(h:Wm w ao n os)(g:Gr w w'):Wm w' ao n os:=
 ⟨h.len,h.nil,fun ad e t ht=>(g.cell _ (World.block_lt_of_cell? w _ (h.cell ad e t ht))).trans (h.cell ad e t ht)⟩
theorem Wm.spot {w:World}{ao:Option Addr}{n:Nat}{os:List Int}(h:Wm w ao n os)(hn:0<n):
  ∃b o,ao=some ⟨b,o,none⟩∧b<w.heap.size∧∀t,t<n→w.cell? ⟨b,o+t,none⟩=some (.int .u32 (os.getD t 0)):=by
 cases ao with
 | none=>exact absurd (h.nil rfl) (by omega)
 | some ad=>
  obtain ⟨b,o,s⟩:=ad
  have hs:s=none:=by simpa [Addr.add] using World.cell?_spot (h.cell _ rfl 0 hn)
  subst hs
  have hb:b<w.heap.size:=by simpa [Addr.add] using World.block_lt_of_cell? w _ (h.cell _ rfl 0 hn)
  exact ⟨b,o,rfl,hb,fun t ht=>by rw [←add_at];exact h.cell _ rfl t ht⟩
theorem wm_own {w:World}{base n:Nat}{v:Value}{os:List Int}(hl:os.length=n)(h:w.ownsRow base 42 1 v n (os.map (Value.int .u32))):∃ao cap,v=.slice ao n cap∧Wm w ao n os:=by
 obtain ⟨_,h⟩:=h
 rcases h with ⟨rfl,h0⟩|⟨g,cap,cur,rfl,hb,hg,hn,hm,hs,ht⟩
 ·subst h0
  exact ⟨none,0,rfl,hl,fun _=>rfl,fun ad e=>(by cases e)⟩
 ·refine ⟨_,cap,rfl,hl,fun e=>(by cases e),fun ad e t htn=>?_⟩
  obtain rfl:=Option.some.inj e
  rw [add_at,Nat.zero_add,cr hg]
  have h1:(cur.toList.take (n*1))[t]?=some (.int .u32 (os.getD t 0)):=by
   rw [ht,List.getElem?_map]
   simp [List.getD,List.getElem?_eq_getElem (show t<os.length by omega)]
  rw [List.getElem?_take_of_lt (by omega)] at h1
  simpa using h1
theorem Words_zero (a b:Option Addr)(c d:Nat)(w:World):Calls Tryz.prog 21 #[.slice a 0 c,.slice b 0 d] w fun e w'=>e=.returned (.bool true)∧Gr w w':=by
 go_enter Tryz.func21,Tryz.ntmps21
 go_wp2
 go_loopw [5] (fun i wr=>i=.int .i64 0∧wr=w) (fun _ _=>0)
 case atStart=>exact ⟨rfl,rfl⟩
 case round=>
  obtain ⟨rfl,rfl⟩:=hrel
  go_wp2
  go_ret
  exact ⟨rfl,Gr.refl _⟩
theorem Words_pos {w:World}{b1 o1 b2 o2 n:Nat}{os:List Int}(c d:Nat)(hn:n≤1000000)(h1:∀t,t<n→w.cell? ⟨b1,o1+t,none⟩=some (.int .u32 (os.getD t 0)))(h2:∀t,t<n→w.cell? ⟨b2,o2+t,none⟩=some (.int .u32 (os.getD t 0))):
  Calls Tryz.prog 21 #[.slice (some ⟨b1,o1,none⟩) n c,.slice (some ⟨b2,o2,none⟩) n d] w fun e w'=>e=.returned (.bool true)∧Gr w w':=by
 have H1:Hid _:=h1
 have H2:Hid _:=h2
 clear h1 h2
 go_enter Tryz.func21,Tryz.ntmps21
 go_wp2
 go_loopw [5] (fun i wr=>∃k:Nat,k≤n∧i=.int .i64 k∧∃m,wr=w.drewN m) (fun i _=>n-(intOf i).toNat)
 case atStart=>exact ⟨0,Nat.zero_le _,rfl,0,rfl⟩
 case round=>
  obtain ⟨k,hk,rfl,m,rfl⟩:=hrel
  by_cases hlt:k<n
  ·have q1:=H1.out k hlt
   have q2:=H2.out k hlt
   generalize os.getD k 0=y at *
   go_wp2_with fail
   go_quiet (fail)
   go_wp2_with fail
   go_roundw
   case rel=>exact ⟨k+1,by omega,by go_num,_,rfl⟩
   case measure=>simp [intOf];omega
  ·go_wp2
   go_ret
   exact ⟨rfl,(Gr.refl _).drewN _⟩
theorem Words_same {w:World}{a b:Option Addr}{n:Nat}{os:List Int}(c d:Nat)(hn:n≤1000000)(A:Wm w a n os)(B:Wm w b n os):Calls Tryz.prog 21 #[.slice a n c,.slice b n d] w fun e w'=>e=.returned (.bool true)∧Gr w w':=by
 by_cases h0:n=0
 ·subst h0;exact Words_zero a b c d w
 ·obtain ⟨b1,o1,rfl,_,h1⟩:=A.spot (by omega)
  obtain ⟨b2,o2,rfl,_,h2⟩:=B.spot (by omega)
  exact Words_pos c d hn h1 h2
section
variable {P : Program} {ops : Array Oper} {rest : List Oper} {op : Oper} {a : Act} {w : World} {Q : Exit → Act → World → Prop}
end
end Go.Proofs.YtchllaeembmioaaGreatDoor.Hc
