/-
  Hc, MemWalks, WordWalks, Hm1, Hm2, Ru: texts of ours that lie in one file.
-/
import Derived.Test.YtkdghgiajifbdaaDoorQ02
import Derived.Deep.RegionLaw
import Derived.Test.YtkdghgiajifbdaaDoorQ01
import Derived.Test.YtkdghgiajifbdaaDoorRows
import Derived.WalkKit
import Derived.ProofKit
import Derived.OpenShut
set_option linter.unusedVariables false
set_option linter.unusedSimpArgs false
set_option maxHeartbeats 8000000
set_option maxRecDepth 100000
namespace Go.Proofs.YtkdghgiajifbdaaDoor.Hc
open Go.ChangeShapes Go.WideShapes Go.ChangeAt Go.RowKit Mm Hh

def rgs (ss:List (Int×Int)):List Value:=ss.flatMap fun p=>[.int .u32 p.1,.int .u32 (Wd.lo (p.1+p.2))]
theorem rgs_snoc (ss:List (Int×Int))(p:Int×Int):rgs (ss++[p])=rgs ss++[.int .u32 p.1,.int .u32 (Wd.lo (p.1+p.2))]:=by
 simp [rgs]
theorem owns_to {w w':World}{base e n sz:Nat}{v:Value}{xs:List Value}(h:w.ownsRow base e sz v n xs)(q:∀(k:Nat) (o:Array Value) (f:Nat×Nat),w.heap[k]?=some (.cells o e f)→w'.heap[k]?=w.heap[k]?):w'.ownsRow base e sz v n xs:=by
 obtain ⟨h1,h2⟩:=h
 refine ⟨h1,?_⟩
 rcases h2 with h2|⟨g,cap,cur,hv,hb,hg,r⟩
 ·exact .inl h2
 ·exact .inr ⟨g,cap,cur,hv,hb,(q g _ _ hg).trans hg,r⟩
theorem ne_of_types {w:World}{k g a b:Nat}{o p:Array Value}{f f':Nat×Nat}(h:w.heap[k]?=some (.cells o a f))(h':w.heap[g]?=some (.cells p b f'))(hab:a≠b):k≠g:=by
 rintro rfl
 rw [h] at h'
 exact hab (by injection h' with h';injection h')
def Ch (g:Nat) (w w':World):Prop:=w.grownBy w' (some g)
theorem Ch.refl (g:Nat)(w:World):Ch g w w:=⟨rfl,rfl,rfl,Nat.le_refl _,fun _ _ _=>rfl⟩
theorem Ch.trans {g:Nat}{a b c:World}(h:Ch g a b)(k:Ch g b c):Ch g a c:=
 ⟨k.os.trans h.os,k.tape.trans h.tape,k.output.trans h.output,Nat.le_trans h.size k.size,fun i hi hn=>(k.block i (Nat.lt_of_lt_of_le hi h.size) hn).trans (h.block i hi hn)⟩
theorem Ch.setCell {g:Nat}{a w:World}(h:Ch g a w)(o:Nat)(v:Value):Ch g a (w.setCell ⟨g,o,none⟩ v):=
 h.trans ⟨rfl,rfl,rfl,by simp [World.setCell],fun k hk hn=>Below.heap_setCell _ _ _ _ (fun e=>hn (by rw [e]))⟩
theorem Ch.gr {g:Nat}{a b c:World}(h:Ch g a b)(k:Gr b c):Ch g a c:=
 h.trans ⟨k.os,k.tape,k.output,k.size,fun i hi _=>k.block i hi⟩
theorem Ch.below {g base:Nat}{w w':World}(h:Ch g w w')(hg:base≤g)(hb:base≤w.heap.size):Below base w w':=
 (Below.refl base w).grown h hb (fun k e=>by injection e with e;omega)
end Go.Proofs.YtkdghgiajifbdaaDoor.Hc
namespace Go.Proofs.YtkdghgiajifbdaaDoor.Mm
open Go.ChangeShapes Go.WideShapes Go.ChangeAt Go.RowKit

end Go.Proofs.YtkdghgiajifbdaaDoor.Mm
namespace Go.Proofs.YtkdghgiajifbdaaDoor.Ww
open Go.ChangeShapes Go.WideShapes Go.ChangeAt Go.RowKit

end Go.Proofs.YtkdghgiajifbdaaDoor.Ww
namespace Go.Proofs.YtkdghgiajifbdaaDoor.Hc
open Go.ChangeShapes Go.WideShapes Go.ChangeAt Go.RowKit Mm Hh

variable {h : Hv} {w : World}
theorem may_get (h:Hv)(o:h.Ok):(hA h)[0]?=some (.int .u32 (rg h 0))∧(hA h)[33]?=some (.bool h.held)∧(hA h)[34]?=some (.int .u32 h.heldAt)∧(hA h)[35]?=some (.int .i64 h.state)∧(hA h)[36]?=some (.int .i64 h.cause):=by
 unfold hA
 simp only [List.getElem?_toArray]
 exact ⟨hL_reg o (by omega),hL_fld o 1,hL_fld o 2,hL_fld o 3,hL_fld o 4⟩
theorem rmay_any {h:Hv}(o:h.Ok)(w:World):Calls Tryd.prog 18 #[.agg (hA h)] w fun e w'=>e=.returned (.bool (may h))∧Gr w w':=by
 obtain ⟨c0,c1,c2,c3,c4⟩:=may_get h o
 have HM:Hid (may h=decide (rg h 0=0∧(h.held=false→h.heldAt=0)∧(((h.state=0∨h.state=1)∧h.cause=0)∨(h.state=2∧1≤h.cause∧h.cause≤6)))):=rfl
 generalize may h=M at *
 generalize hA h=A at *
 generalize rg h 0=x0 at *
 generalize h.held=x1 at *
 generalize h.heldAt=x2 at *
 generalize h.state=x3 at *
 generalize h.cause=x4 at *
 clear o
 cases x1
 all_goals
  go_enter Tryd.func18,Tryd.ntmps18
  go_wp2
  all_goals
   clear c0 c1 c2 c3 c4
   go_ret
   refine ⟨ret_bool ?_,(Gr.refl _).alloc _⟩
   rw [HM.out,Bool.eq_iff_iff]
   simp at *
   omega
end Go.Proofs.YtkdghgiajifbdaaDoor.Hc
namespace Go.Proofs.YtkdghgiajifbdaaDoor.Hc
open Go.ChangeShapes Go.WideShapes Go.ChangeAt Go.RowKit Mm Hh

variable {a op : Int} {w w' W : World} {base g n b : Nat} {h : Hv} {x v : Value} {xs : List Value}
theorem step_append_own {P:Program}{ops:Array Oper}{o:Oper}{a:Act}{K:Act→World→Prop}{Q:Exit→Act→World→Prop}{E:Prop}
  (hg:o.guard=none)(s x:Operand)(t:TypeId)(hop:o.op=Op.call { callee:=Callee.builtin Builtin.append,args:=#[s,x],argTypes:=#[t,t] })
  (base:Nat)(e:TypeId)(i:TypeInfo)(z:Value)(size bytes:Nat)(h1:P.underlying t=some (.slice e))(h2:P.info? e=some i)(h3:i.zero=some z)(h4:i.size=size)(h5:i.bytes=bytes)(h6:z.cells.size=size)(h7:0<size)
  (v:Value)(n:Nat)(olds:List Value)(hs:a.eval s=v)(hown:w.ownsRow base e size v n olds)
  (ad:Addr)(m c:Nat)(news:List Value)(hx:a.eval x=.slice (some ad) m c)(hn:news.length=m*size)(hc:∀j u,news[j]?=some u→w.cell? (ad.add j)=some u)(h1c:∀u∈news,u.oneCell'=true)
  (b1:n+m≤maxLen)(b2:(n+m)*bytes≤140737488355328)(hbase:base≤w.heap.size)
  (hK:∀v' w',w'.ownsRow base e size v' (n+m) (olds++news)→w.grownBy w' v.ownBlock→K (a.put o.dst v') w'):
  if Region.wanted o (yielded ops a.tmps)=true then Oper.wp P o a w K Q else E:=by
 have hw:Region.wanted o (yielded ops a.tmps)=true:=by simp [Region.wanted,hg]
 rw [if_pos hw]
 obtain ⟨v',w',hrun,r1,r2,_⟩:=run_append_own (P:=P) w base t o.type e i z size bytes h1 h2 h3 h4 h5 h6 h7 v n olds hown ad m c news hn hc h1c b1 b2 hbase
 unfold Oper.wp
 simp [execOp,hop,resolve,invoke,builtin,hs,hx,hrun,Result.andThen]
 exact hK v' w' r1 r2
theorem infoR:(Tryd.prog.info? 46).map (fun i=>(i.zero,i.size,i.bytes))=some (some (.agg #[.int .u32 0,.int .u32 0]),2,8):=by kernel_rfl
theorem infoU:(Tryd.prog.info? 24).map (fun i=>(i.zero,i.size,i.bytes))=some (some (.int .u32 0),1,4):=by kernel_rfl
theorem Gr.drew {a:World}(h:Gr a w):Gr a w.drew:=h.drewN 1
theorem owns_gr {e sz:Nat}(h:w.ownsRow base e sz v n xs)(q:Gr w w'):w'.ownsRow base e sz v n xs:=
 owns_to h fun k o f hk=>q.block k (gs hk).1
theorem own_form {size:Nat}{e:TypeId}(h:w.ownsRow base e size v n xs)(hn:0<n):∃g cap,v=.slice (some ⟨g,0,none⟩) n cap:=by
 rcases h.2 with ⟨_,h0⟩|⟨g,cap,_,hv,_⟩
 ·omega
 ·exact ⟨g,cap,hv⟩
theorem two_cells {y:Value}(h0:W.cell? ⟨b,0,none⟩=some x)(h1:W.cell? ⟨b,1,none⟩=some y):∀j u,([x,y]:List Value)[j]?=some u→W.cell? ((⟨b,0,none⟩:Addr).add j)=some u:=by
 intro j u hj
 rw [add_at]
 match j,hj with
 | 0,hj=>simp at hj;subst hj;exact h0
 | 1,hj=>simp at hj;subst hj;exact h1
theorem two_one (a b:Int):∀u∈[Value.int .u32 a,Value.int .u32 b],u.oneCell'=true:=by
 intro u hu
 simp at hu
 rcases hu with rfl|rfl<;>rfl
theorem one_cell (h0:W.cell? ⟨b,0,none⟩=some x):∀j u,([x]:List Value)[j]?=some u→W.cell? ((⟨b,0,none⟩:Addr).add j)=some u:=by
 intro j u hj
 rw [add_at]
 match j,hj with
 | 0,hj=>simp at hj;subst hj;exact h0
theorem one_one (a:Int):∀u∈[Value.int .u32 a],u.oneCell'=true:=by
 intro u hu
 simp at hu
 subst hu
 rfl
end Go.Proofs.YtkdghgiajifbdaaDoor.Hc
namespace Go.Proofs.YtkdghgiajifbdaaDoor.Mi
open Go.ChangeShapes Go.WideShapes Go.ChangeAt Go.RowKit Mm Hh Hc

variable {r r' : Rn} {M O S v M' : Value} {bf bt : Int} {i j base g : Nat} {w w' : World} {l : List UInt8}
def uT (r:Rn) (M O S:Value) (bf bt:Int):List Value:=[M,O,.int .i64 r.n,S]++r.tm.map (Value.int .u32)++[.int .u32 r.here,.bool r.own,.bool r.over,.int .u32 bf,.int .u32 bt]
def uA (r:Rn) (M O S:Value) (bf bt:Int):Array Value:=(hL r.h++uT r M O S bf bt).toArray
theorem uT_len (o:r.Ok)(M O S:Value)(bf bt:Int):(uT r M O S bf bt).length=13:=by simp [uT,o.tl]
theorem uA_size (o:r.Ok)(M O S:Value)(bf bt:Int):(uA r M O S bf bt).size=50:=by simp [uA,hL_len o.h,uT_len o]
theorem uA_h (o:r.Ok)(hi:i<37):(uA r M O S bf bt)[i]?=(hL r.h)[i]?:=by
 have:=hL_len o.h
 unfold uA
 rw [List.getElem?_toArray,List.getElem?_append_left (by omega)]
theorem uA_t (o:r.Ok)(j:Nat):(uA r M O S bf bt)[37+j]?=(uT r M O S bf bt)[j]?:=by
 unfold uA
 rw [List.getElem?_toArray,List.getElem?_append_right (by simp [hL_len o.h])]
 simp [hL_len o.h]
theorem uT_tm (o:r.Ok)(hj:j<4):(uT r M O S bf bt)[4+j]?=some (.int .u32 (r.tm.getD j 0)):=by
 have:=o.tl
 unfold uT
 rw [List.append_assoc,List.getElem?_append_right (by simp),List.getElem?_append_left (by simp;omega)]
 simp only [List.length_cons,List.length_nil,List.getElem?_map,List.getD]
 rw [show 4+j-(0+1+1+1+1)=j by omega,List.getElem?_eq_getElem (by omega)]
 rfl
theorem uT_fld (o:r.Ok)(j:Nat):(uT r M O S bf bt)[8+j]?=[Value.int .u32 r.here,.bool r.own,.bool r.over,.int .u32 bf,.int .u32 bt][j]?:=by
 unfold uT
 rw [List.getElem?_append_right (by simp [o.tl])]
 simp [o.tl]
theorem uA_setH (o:r.Ok)(hi:i<37){h':Hv}(e:(hL r.h).set i v=hL h'):(uA r M O S bf bt).setIfInBounds i v=uA { r with h:=h' } M O S bf bt:=by
 have:=hL_len o.h
 unfold uA
 simp only [List.setIfInBounds_toArray]
 rw [List.set_append_left _ _ (by omega),e]
 rfl
theorem uA_setT (o:r.Ok){O' S':Value}(eh:r'.h=r.h)(e:(uT r M O S bf bt).set j v=uT r' M' O' S' bf bt):(uA r M O S bf bt).setIfInBounds (37+j) v=uA r' M' O' S' bf bt:=by
 have:=hL_len o.h
 unfold uA
 simp only [List.setIfInBounds_toArray]
 rw [List.set_append_right _ _ (by omega),this,eh,show 37+j-37=j by omega,e]
theorem uT_setTm (o:r.Ok)(hj:j<4)(x:Int):(uT r M O S bf bt).set (4+j) (.int .u32 x)=uT { r with tm:=r.tm.set j x } M O S bf bt:=by
 have:=o.tl
 unfold uT
 rw [List.append_assoc,List.set_append_right _ _ (by simp),List.set_append_left _ _ (by simp;omega)]
 simp only [List.length_cons,List.length_nil,List.map_set]
 rw [show 4+j-(0+1+1+1+1)=j by omega,←List.append_assoc]
theorem uT_setF (o:r.Ok)(en:r'.n=r.n)(et:r'.tm=r.tm)(e:[Value.int .u32 r.here,.bool r.own,.bool r.over,.int .u32 bf,.int .u32 bt].set j v=[Value.int .u32 r'.here,.bool r'.own,.bool r'.over,.int .u32 bf,.int .u32 bt]):(uT r M O S bf bt).set (8+j) v=uT r' M O S bf bt:=by
 unfold uT
 rw [List.set_append_right _ _ (by simp [o.tl]),en,et]
 simp only [List.length_append,List.length_cons,List.length_nil,List.length_map,o.tl]
 rw [show 8+j-(0+1+1+1+1+4)=j by omega,e]
def MO (w:World) (base:Nat) (M:Value) (l:List UInt8):Prop:=∃ao cap,M=.slice ao l.length cap∧Mem w ao l.length l∧∀ad,ao=some ad→0<l.length→ad.block<base∨∃o f,w.heap[ad.block]?=some (.cells o 5 f)
theorem MO.keep (h:MO w base M l)(e:∀k,k<base→w'.heap[k]?=w.heap[k]?)(e2:∀(k:Nat) (o:Array Value) (f:Nat×Nat),w.heap[k]?=some (.cells o 5 f)→w'.heap[k]?=w.heap[k]?):MO w' base M l:=by
 obtain ⟨ao,cap,hM,hm,far⟩:=h
 have k:∀ad,ao=some ad→0<l.length→w'.heap[ad.block]?=w.heap[ad.block]?:=fun ad q h0=>by
  rcases far ad q h0 with h|⟨o,f,h⟩
  ·exact e _ h
  ·exact e2 _ _ _ h
 refine ⟨ao,cap,hM,?_,fun ad q h0=>?_⟩
 ·by_cases h0:0<l.length
  ·exact hm.apart fun ad q=>k ad q h0
  ·exact ⟨hm.len,hm.nil,fun ad q t ht=>by omega⟩
 ·rcases far ad q h0 with h|⟨o,f,h⟩
  ·exact .inl h
  ·exact .inr ⟨o,f,(k ad q h0).trans h⟩
structure RV (w:World) (base g:Nat) (r:Rn) (bf bt:Int) (M O S:Value):Prop where
 ok:r.Ok
 bg:base≤g
 blk:w.heap[g]?=some (.cells (uA r M O S bf bt) 91 (0,0))
 mem:MO w base M r.m
 out:w.ownsRow base 24 1 O r.out.length (r.out.map (Value.int .u32))
 sto:w.ownsRow base 46 2 S r.sto.length (rgs r.sto)
def Ru (w:World) (base g:Nat) (r:Rn) (bf bt:Int):Prop:=∃M O S,RV w base g r bf bt M O S
theorem RV.lt (V:RV w base g r bf bt M O S):g<w.heap.size:=(gs V.blk).1
theorem RV.cell (V:RV w base g r bf bt M O S)(i:Nat):w.cell? ⟨g,i,none⟩=(uA r M O S bf bt)[i]?:=cr V.blk
theorem RV.fz (V:RV w base g r bf bt M O S)(i:Nat):w.frozen? ⟨g,i,none⟩=false:=fzr V.blk
theorem RV.reg (V:RV w base g r bf bt M O S)(hi:i<32):w.cell? ⟨g,i,none⟩=some (.int .u32 (rg r.h i)):=
 (V.cell i).trans ((uA_h V.ok (by omega)).trans (hL_reg V.ok.h hi))
theorem RV.fld (V:RV w base g r bf bt M O S)(hj:j<5):w.cell? ⟨g,32+j,none⟩=[Value.int .u32 r.h.pc,.bool r.h.held,.int .u32 r.h.heldAt,.int .i64 r.h.state,.int .i64 r.h.cause][j]?:=
 (V.cell _).trans ((uA_h V.ok (by omega)).trans (hL_fld V.ok.h j))
theorem RV.top (V:RV w base g r bf bt M O S)(j:Nat):w.cell? ⟨g,37+j,none⟩=(uT r M O S bf bt)[j]?:=(V.cell _).trans (uA_t V.ok j)
theorem RV.tmp (V:RV w base g r bf bt M O S)(hj:j<4):w.cell? ⟨g,41+j,none⟩=some (.int .u32 (r.tm.getD j 0)):=by
 have:=(V.top (4+j)).trans (uT_tm V.ok hj)
 rwa [show 37+(4+j)=41+j by omega] at this
theorem RV.last (V:RV w base g r bf bt M O S)(j:Nat):w.cell? ⟨g,45+j,none⟩=[Value.int .u32 r.here,.bool r.own,.bool r.over,.int .u32 bf,.int .u32 bt][j]?:=by
 have:=(V.top (8+j)).trans (uT_fld V.ok j)
 rwa [show 37+(8+j)=45+j by omega] at this
theorem RV.ch (V:RV w base g r bf bt M O S)(q:Ch g w w')(hb:w'.heap[g]?=some (.cells (uA r' M' O S bf bt) 91 (0,0)))(ok:r'.Ok)(hm:MO w' base M' r'.m)(eo:r'.out=r.out)(es:r'.sto=r.sto):RV w' base g r' bf bt M' O S:=by
 have st:∀t:Nat,t≠91→∀(k:Nat) (o:Array Value) (f:Nat×Nat),w.heap[k]?=some (.cells o t f)→w'.heap[k]?=w.heap[k]?:=fun t ht k o f hk=>
  q.block k (gs hk).1 (fun e=>ne_of_types hk V.blk ht (by injection e))
 refine ⟨ok,V.bg,hb,hm,?_,?_⟩
 ·rw [eo];exact owns_to V.out (st _ (by decide))
 ·rw [es];exact owns_to V.sto (st _ (by decide))
theorem RV.chM (V:RV w base g r bf bt M O S)(q:Ch g w w'):MO w' base M r.m:=by
 have hl:=V.lt
 have hg:=V.bg
 refine V.mem.keep (fun k hk=>q.block k (by omega) (fun e=>by injection e with e;omega)) fun k o f hk=>?_
 exact q.block k (gs hk).1 (fun e=>ne_of_types hk V.blk (by decide) (by injection e))
theorem RV.of (V:RV w base g r bf bt M O S)(q:Gr w w'):RV w' base g r bf bt M O S:=
 V.ch ((Ch.refl g w).gr q) ((q.block g V.lt).trans V.blk) V.ok (V.chM ((Ch.refl g w).gr q)) rfl rfl
theorem Ru.of (V:Ru w base g r bf bt)(q:Gr w w'):Ru w' base g r bf bt:=by
 obtain ⟨M,O,S,V⟩:=V
 exact ⟨M,O,S,V.of q⟩
theorem RV.set (V:RV w base g r bf bt M O S)(e:(uA r M O S bf bt).setIfInBounds i v=uA r' M O S bf bt)(ok:r'.Ok)(em:r'.m=r.m)(eo:r'.out=r.out)(es:r'.sto=r.sto):RV (w.setCell ⟨g,i,none⟩ v) base g r' bf bt M O S:=
 V.ch ((Ch.refl g w).setCell i v) (by rw [hss V.blk,e]) ok (by rw [em];exact V.chM ((Ch.refl g w).setCell i v)) eo es
theorem RV.below (V:RV w base g r bf bt M O S)(q:Ch g w w'):Below base w w':=q.below V.bg (Nat.le_trans V.bg (Nat.le_of_lt V.lt))
theorem RV.setM (V:RV w base g r bf bt M O S)(hm:MO w base M' l):RV (w.setCell ⟨g,37,none⟩ M') base g { r with m:=l } bf bt M' O S:=by
 refine V.ch ((Ch.refl g w).setCell 37 M') ?_ (V.ok.mem l) ?_ rfl rfl
 ·rw [hss V.blk,uA_setT (r':={ r with m:=l }) (M':=M') (O':=O) (S':=S) (j:=0) V.ok rfl rfl]
 ·have hl:=V.lt
  have hg:=V.bg
  refine hm.keep (fun k hk=>((Ch.refl g w).setCell 37 M').block k (by omega) (fun e=>by injection e with e;omega)) fun k o f hk=>?_
  exact ((Ch.refl g w).setCell 37 M').block k (gs hk).1 (fun e=>ne_of_types hk V.blk (by decide) (by injection e))
end Go.Proofs.YtkdghgiajifbdaaDoor.Mi
