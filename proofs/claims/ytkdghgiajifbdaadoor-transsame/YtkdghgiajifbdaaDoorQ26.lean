/-
  Sp: texts of ours that lie in one file.
-/
import Derived.Test.YtkdghgiajifbdaaDoorQ10
import Derived.Test.YtkdghgiajifbdaaDoorQ16
import Derived.Test.YtkdghgiajifbdaaDoorQ25
import Derived.Maps.AppendAt
import Derived.Test.YtkdghgiajifbdaaDoorQ11
set_option linter.unusedVariables false
set_option linter.unusedSimpArgs false
set_option maxHeartbeats 8000000
set_option maxRecDepth 100000
namespace Go.Proofs.YtkdghgiajifbdaaDoor.Ts
open Go.ChangeShapes Go.WideShapes Go.ChangeAt Go.RowKit Mm Hh Hc Mi

theorem stp_len {h:Hv}(o:h.Ok)(l:List UInt8):(stp h l).m.length=l.length∧(stp h l).out.length≤1∧(stp h l).sto.length≤1:=by
 refine ⟨?_,?_,(Mc.stp_sto o l).2⟩
 ·unfold stp insW ins done
  split
  ·split
   ·rfl
   ·exact (eff_ok o l (W.reg o _) (W.reg o _) (W.lo _)).m
  ·rfl
 ·unfold stp insW ins done
  split
  ·split
   ·simp
   ·exact (eff_ok o l (W.reg o _) (W.reg o _) (W.lo _)).out
  ·simp
section
variable {P : Program} {w : World} {base e size bytes n m : Nat} {i : TypeInfo} {z : Value} {t : TypeId}
theorem run_append_src_at (ty:TypeId)(h1:P.underlying t=some (.slice e))(h2:P.info? e=some i)(h3:i.zero=some z)(h4:i.size=size)(h5:i.bytes=bytes)(h6:z.cells.size=size)(h7:0<size)
  {v vx:Value}{olds news:List Value}(hown:w.ownsRow base e size v n olds)(hsrc:Mc.Src w vx m size news)(h1c:∀u∈news,u.oneCell'=true)(b1:n+m≤maxLen)(b2:(n+m)*bytes≤140737488355328)(hbase:base≤w.heap.size):
  ∃v' w',(Builtin.append_ #[t,t] ty #[v,vx]).run P w=.ok v' w'∧w'.ownsRow base e size v' (n+m) (olds++news)∧w.grownBy w' v.ownBlock∧(v'.ownBlock=v.ownBlock∨v'.ownBlock=some w.heap.size):=by
 rcases hsrc with ⟨rfl,rfl,rfl⟩|⟨ad,c,rfl,hl,hc⟩
 ·exact ⟨v,w,run_append_owned_none w base t ty e i size h1 h2 v n olds hown,by simpa using hown,⟨rfl,rfl,rfl,Nat.le_refl _,fun _ _ _=>rfl⟩,.inl rfl⟩
 ·obtain ⟨v',w',hrun,r1,r2,_,r4⟩:=run_append_own_at (P:=P) w base t ty e i z size bytes h1 h2 h3 h4 h5 h6 h7 v n olds hown ad m c news hl hc h1c b1 b2 hbase
  exact ⟨v',w',hrun,r1,r2,r4⟩
theorem wpList_append_src_at {ops:Array Oper}{rest:List Oper}{o:Oper}{a:Act}{Q:Exit→Act→World→Prop}
  (hg:o.guard=none)(s x:Operand)(hop:o.op=Op.call { callee:=Callee.builtin Builtin.append,args:=#[s,x],argTypes:=#[t,t] })
  (h1:P.underlying t=some (.slice e))(h2:P.info? e=some i)(h3:i.zero=some z)(h4:i.size=size)(h5:i.bytes=bytes)(h6:z.cells.size=size)(h7:0<size)
  {v vx:Value}{olds news:List Value}(hs:a.eval s=v)(hx:a.eval x=vx)(hown:w.ownsRow base e size v n olds)(hsrc:Mc.Src w vx m size news)(h1c:∀u∈news,u.oneCell'=true)(b1:n+m≤maxLen)(b2:(n+m)*bytes≤140737488355328)(hbase:base≤w.heap.size)
  (hK:∀v' w',w'.ownsRow base e size v' (n+m) (olds++news)→w.grownBy w' v.ownBlock→(v'.ownBlock=v.ownBlock∨v'.ownBlock=some w.heap.size)→wpList P ops Q rest (a.put o.dst v') w'):wpList P ops Q (o::rest) a w:=by
 refine wpList_plain hg fun K hk=>?_
 obtain ⟨v',w',hrun,r1,r2,r3⟩:=run_append_src_at (P:=P) o.type h1 h2 h3 h4 h5 h6 h7 hown hsrc h1c b1 b2 hbase
 unfold Oper.wp
 simp [execOp,hop,resolve,invoke,builtin,hs,hx,hrun,Result.andThen]
 exact hk _ _ (hK v' w' r1 r2 r3)
end
theorem mem_keep {w w':World}{ma:Option Addr}{mn:Nat}{l:List UInt8}(M:Mem w ma mn l)(h:∀ad,ma=some ad→0<mn→ad.block<w.heap.size→w'.heap[ad.block]?=w.heap[ad.block]?):Mem w' ma mn l:=by
 by_cases h0:mn=0
 ·exact ⟨M.len,M.nil,fun ad e t ht=>absurd ht (by omega)⟩
 ·refine M.apart fun ad e=>h ad e (by omega) ?_
  have:=World.block_lt_of_cell? w _ (M.cell ad e 0 (by omega))
  rwa [add_block] at this
theorem outv_to {w w':World}{v:Value}{os:List Int}(O:Hr.OutV w v os)(h:∀{k:Nat} {o:Array Value} {f:Nat×Nat},w.heap[k]?=some (.cells o 24 f)→w'.heap[k]?=w.heap[k]?):Hr.OutV w' v os:=by
 rcases O with o|⟨k,x,e1,e2,e3⟩
 ·exact .inl o
 ·exact .inr ⟨k,x,e1,e2,(h e3).trans e3⟩
theorem outv_src {w:World}{v:Value}{os:List Int}(O:Hr.OutV w v os):Mc.Src w v os.length 1 (os.map (Value.int .u32)):=by
 rcases O with ⟨rfl,rfl⟩|⟨k,x,rfl,rfl,e3⟩
 ·exact .inl ⟨rfl,rfl,rfl⟩
 ·refine .inr ⟨⟨k,0,none⟩,1,rfl,rfl,fun j u hj=>?_⟩
  have h1:j<1:=(List.getElem?_eq_some_iff.1 hj).1
  obtain rfl:j=0:=by omega
  rw [add_at,cell_of_row _ _ _ _ _ _ e3]
  exact hj
structure Fk (base g:Nat) (w w':World):Prop where
 below:Below base w w'
 keep:∀(k:Nat) (o:Array Value) (t:Nat) (f:Nat×Nat),w.heap[k]?=some (.cells o t f)→k≠g→t≠24→t≠46→w'.heap[k]?=w.heap[k]?
theorem Fk.trans {base g:Nat}{a b c:World}(h:Fk base g a b)(q:Fk base g b c):Fk base g a c:=
 ⟨h.below.trans q.below,fun k o t f e n1 n2 n3=>by
  have e1:=h.keep k o t f e n1 n2 n3
  exact (q.keep k o t f (e1.trans e) n1 n2 n3).trans e1⟩
theorem Fk.ofGr {base g:Nat}{w w':World}(h:Gr w w')(hb:base≤w.heap.size):Fk base g w w':=
 ⟨Below.mono h hb,fun k o t f e _ _ _=>h.block k (Array.getElem?_eq_some_iff.1 e).1⟩
theorem Fk.ofCh {base g:Nat}{w w':World}(h:Ch g w w')(hg:base≤g)(hb:base≤w.heap.size):Fk base g w w':=
 ⟨h.below hg hb,fun k o t f e n1 _ _=>h.block k (Array.getElem?_eq_some_iff.1 e).1 (fun x=>n1 (by injection x))⟩
theorem Fk.at {base g:Nat}{w w':World}(h:Fk base g w w'){k:Nat}{o:Array Value}{t:Nat}{f:Nat×Nat}(e:w.heap[k]?=some (.cells o t f))(n1:k≠g)(n2:t≠24)(n3:t≠46):w'.heap[k]?=some (.cells o t f):=(h.keep k o t f e n1 n2 n3).trans e
structure Sd (w:World) (base g:Nat) (r:Rn) (ao:Option Addr) (mn c:Nat) (O S:Value):Prop where
 ok:r.Ok
 ml:r.m.length=mn
 bg:base≤g
 blk:w.heap[g]?=some (.cells (gA r.h (.slice ao mn c) O r.n S) 50 (0,0))
 mem:Mem w ao mn r.m
 far:∀ad,ao=some ad→0<mn→ad.block≠g∧O.ownBlock≠some ad.block∧S.ownBlock≠some ad.block
 out:w.ownsRow base 24 1 O r.out.length (r.out.map (Value.int .u32))
 sto:w.ownsRow base 46 2 S r.sto.length (rgs r.sto)
section
variable {w : World} {base g : Nat} {r : Rn} {ao : Option Addr} {mn c : Nat} {O S : Value}
theorem Sd.lt (D:Sd w base g r ao mn c O S):g<w.heap.size:=(Array.getElem?_eq_some_iff.1 D.blk).1
theorem Sd.base_le (D:Sd w base g r ao mn c O S):base≤w.heap.size:=Nat.le_trans D.bg (Nat.le_of_lt D.lt)
theorem Sd.cell (D:Sd w base g r ao mn c O S)(i:Nat):w.cell? ⟨g,i,none⟩=(gA r.h (.slice ao mn c) O r.n S)[i]?:=cell_of_row _ _ _ _ _ _ D.blk
theorem Sd.top (D:Sd w base g r ao mn c O S)(j:Nat):w.cell? ⟨g,37+j,none⟩=[.slice ao mn c,O,Value.int .i64 r.n,S][j]?:=by
 rw [D.cell]
 unfold gA gL
 rw [List.getElem?_toArray,List.getElem?_append_right (by simp [hL_len D.ok.h])]
 simp [hL_len D.ok.h]
theorem Sd.fld (D:Sd w base g r ao mn c O S){j:Nat}(hj:j<5):w.cell? ⟨g,32+j,none⟩=[Value.int .u32 r.h.pc,.bool r.h.held,.int .u32 r.h.heldAt,.int .i64 r.h.state,.int .i64 r.h.cause][j]?:=by
 rw [D.cell]
 unfold gA gL
 rw [List.getElem?_toArray,List.getElem?_append_left (by rw [hL_len D.ok.h];omega)]
 exact hL_fld D.ok.h j
theorem Sd.fz (D:Sd w base g r ao mn c O S)(i:Nat):w.frozen? ⟨g,i,none⟩=false:=frozen_of_row _ _ _ _ _ D.blk
theorem Sd.hart (D:Sd w base g r ao mn c O S):w.rangeAt g 0 (hL r.h):=fun j v hv=>by
 rw [Nat.zero_add,D.cell]
 have hj:j<(hL r.h).length:=(List.getElem?_eq_some_iff.1 hv).1
 unfold gA gL
 rw [List.getElem?_toArray,List.getElem?_append_left hj]
 exact hv
theorem Sd.there (D:Sd w base g r ao mn c O S):w.there g 0 37:=fun j hj=>by
 refine ⟨?_,by rw [Nat.zero_add];exact D.fz j⟩
 rw [Nat.zero_add,D.cell,Array.getElem?_eq_getElem (by rw [gA_size D.ok.h];omega)]
 rfl
theorem Sd.of {w':World}(D:Sd w base g r ao mn c O S)(G:Gr w w'):Sd w' base g r ao mn c O S:=
 ⟨D.ok,D.ml,D.bg,heap_up G D.blk,D.mem.of G,D.far,owns_gr D.out G,owns_gr D.sto G⟩
theorem Sd.ch {w':World}(D:Sd w base g r ao mn c O S)(q:Ch g w w'){r':Rn}(hb:w'.heap[g]?=some (.cells (gA r'.h (.slice ao mn c) O r'.n S) 50 (0,0)))(ok:r'.Ok)(em:r'.m=r.m)(eo:r'.out=r.out)(es:r'.sto=r.sto):Sd w' base g r' ao mn c O S:=by
 have st:∀t:Nat,t≠50→∀(k:Nat) (o:Array Value) (f:Nat×Nat),w.heap[k]?=some (.cells o t f)→w'.heap[k]?=w.heap[k]?:=fun t ht k o f hk=>
  q.block k (Array.getElem?_eq_some_iff.1 hk).1 (fun e=>ne_of_types hk D.blk ht (by injection e))
 refine ⟨ok,by rw [em];exact D.ml,D.bg,hb,by rw [em];exact mem_keep D.mem fun ad e h0 hl=>q.block _ hl (fun x=>(D.far ad e h0).1 (by injection x)),D.far,?_,?_⟩
 ·rw [eo];exact owns_to D.out (st _ (by decide))
 ·rw [es];exact owns_to D.sto (st _ (by decide))
theorem gA_setTop {h:Hv}(o:h.Ok){M O S M' O' S':Value}{n n':Int}{j:Nat}{v:Value}(e:[M,O,Value.int .i64 n,S].set j v=[M',O',Value.int .i64 n',S']):(gA h M O n S).setIfInBounds (37+j) v=gA h M' O' n' S':=by
 have:=hL_len o
 unfold gA gL
 simp only [List.setIfInBounds_toArray]
 rw [List.set_append_right _ _ (by omega),this,show 37+j-37=j by omega,e]
theorem Sd.setN (D:Sd w base g r ao mn c O S)(k:Nat):Sd (w.setCell ⟨g,39,none⟩ (.int .i64 k)) base g { r with n:=k } ao mn c O S:=
 D.ch ((Ch.refl g w).setCell 39 _) (by rw [heap_setCell_same _ _ _ _ _ _ D.blk];congr 2;exact gA_setTop (j:=2) D.ok.h rfl) ⟨D.ok.h,D.ok.tl,D.ok.tb,D.ok.h0,D.ok.h1⟩ rfl rfl rfl
theorem Sd.setH (D:Sd w base g r ao mn c O S){h':Hv}(o':h'.Ok):Sd (w.setCells g 0 (hL h')) base g { r with h:=h' } ao mn c O S:=by
 refine D.ch (Mc.Ch.setCells (Ch.refl g w) _ _) ?_ (D.ok.hart o') rfl rfl rfl
 have e:=Mc.heap_setCells g (hL h') 0 w (gL r.h (.slice ao mn c) O r.n S) D.blk (by rw [gL_len D.ok.h,hL_len o'];omega)
 rw [e]
 congr 2
 have l1:=hL_len D.ok.h
 have l2:=hL_len o'
 unfold gA gL
 rw [List.take_zero,List.nil_append,Nat.zero_add,l2,←l1,List.drop_left]
theorem Sd.setM (D:Sd w base g r ao mn c O S){a':Option Addr}(c':Nat){m':List UInt8}(M:Mem w a' mn m')(far:∀ad,a'=some ad→0<mn→ad.block≠g∧O.ownBlock≠some ad.block∧S.ownBlock≠some ad.block):Sd (w.setCell ⟨g,37,none⟩ (.slice a' mn c')) base g { r with m:=m' } a' mn c' O S:=by
 have q:Ch g w (w.setCell ⟨g,37,none⟩ (.slice a' mn c')):=(Ch.refl g w).setCell 37 _
 have st:∀t:Nat,t≠50→∀(k:Nat) (o:Array Value) (f:Nat×Nat),w.heap[k]?=some (.cells o t f)→(w.setCell ⟨g,37,none⟩ (.slice a' mn c')).heap[k]?=w.heap[k]?:=fun t ht k o f hk=>
  q.block k (Array.getElem?_eq_some_iff.1 hk).1 (fun e=>ne_of_types hk D.blk ht (by injection e))
 refine ⟨D.ok.mem m',M.len,D.bg,?_,mem_keep M fun ad e h0 hl=>q.block _ hl (fun x=>(far ad e h0).1 (by injection x)),far,owns_to D.out (st _ (by decide)),owns_to D.sto (st _ (by decide))⟩
 rw [heap_setCell_same _ _ _ _ _ _ D.blk]
 congr 2
 exact gA_setTop (j:=0) D.ok.h rfl
theorem Sd.appO {w':World}(D:Sd w base g r ao mn c O S)(q:w.grownBy w' O.ownBlock){v:Value}{os:List Int}(ho:w'.ownsRow base 24 1 v os.length (os.map (Value.int .u32)))(hv:v.ownBlock=O.ownBlock∨v.ownBlock=some w.heap.size):
  w'.cell? ⟨g,38,none⟩=some O∧w'.frozen? ⟨g,38,none⟩=false∧Sd (w'.setCell ⟨g,38,none⟩ v) base g { r with out:=os } ao mn c v S∧Fk base g w (w'.setCell ⟨g,38,none⟩ v):=by
 have st:∀{t:Nat},t≠24→∀{k:Nat} {o:Array Value} {f:Nat×Nat},w.heap[k]?=some (.cells o t f)→w'.heap[k]?=w.heap[k]?:=fun ht _ _ _ hk=>grown_at D.out q ht hk
 have hb:=(st (by decide) D.blk).trans D.blk
 have ne:∀{t:Nat},t≠50→∀{k:Nat} {o:Array Value} {f:Nat×Nat},w'.heap[k]?=some (.cells o t f)→(w'.setCell ⟨g,38,none⟩ v).heap[k]?=w'.heap[k]?:=fun ht _ _ _ hk=>heap_setCell_other _ _ _ _ (by exact ne_of_types hk hb ht)
 have M1:Mem w' ao mn r.m:=mem_keep D.mem fun ad e h0 hl=>q.block _ hl (fun x=>(D.far ad e h0).2.1 x.symm)
 have hml:∀ad,ao=some ad→0<mn→ad.block<w.heap.size:=fun ad e h0=>by
  have:=World.block_lt_of_cell? w _ (D.mem.cell ad e 0 h0)
  rwa [add_block] at this
 refine ⟨(cell_of_row _ _ _ _ _ _ hb).trans ((D.cell 38).symm.trans (D.top 1)),frozen_of_row _ _ _ _ _ hb,⟨⟨D.ok.h,D.ok.tl,D.ok.tb,D.ok.h0,D.ok.h1⟩,D.ml,D.bg,?_,mem_keep M1 fun ad e h0 _=>heap_setCell_other _ _ _ _ (by exact (D.far ad e h0).1),fun ad e h0=>⟨(D.far ad e h0).1,?_,(D.far ad e h0).2.2⟩,owns_to ho fun k o f hk=>ne (by decide) hk,owns_to (owns_to D.sto fun k o f hk=>st (by decide) hk) fun k o f hk=>ne (by decide) hk⟩,?_⟩
 ·rw [heap_setCell_same _ _ _ _ _ _ hb]
  congr 2
  exact gA_setTop (j:=1) D.ok.h rfl
 ·rcases hv with hv|hv
  ·rw [hv];exact (D.far ad e h0).2.1
  ·rw [hv];intro x
   have:=hml ad e h0
   injection x with x
   omega
 ·refine ⟨Below.setCell ((Below.refl base w).grown q D.base_le fun k e=>(D.out.lt k e).1) (by exact D.bg) _,fun k o t f e n1 n2 n3=>?_⟩
  have e1:=st n2 e
  exact (heap_setCell_other _ _ _ _ (by exact n1)).trans e1
theorem Sd.appS {w':World}(D:Sd w base g r ao mn c O S)(q:w.grownBy w' S.ownBlock){v:Value}{ss:List (Int×Int)}(ho:w'.ownsRow base 46 2 v ss.length (rgs ss))(hv:v.ownBlock=S.ownBlock∨v.ownBlock=some w.heap.size):
  w'.cell? ⟨g,40,none⟩=some S∧w'.frozen? ⟨g,40,none⟩=false∧Sd (w'.setCell ⟨g,40,none⟩ v) base g { r with sto:=ss } ao mn c O v∧Fk base g w (w'.setCell ⟨g,40,none⟩ v):=by
 have st:∀{t:Nat},t≠46→∀{k:Nat} {o:Array Value} {f:Nat×Nat},w.heap[k]?=some (.cells o t f)→w'.heap[k]?=w.heap[k]?:=fun ht _ _ _ hk=>grown_at D.sto q ht hk
 have hb:=(st (by decide) D.blk).trans D.blk
 have ne:∀{t:Nat},t≠50→∀{k:Nat} {o:Array Value} {f:Nat×Nat},w'.heap[k]?=some (.cells o t f)→(w'.setCell ⟨g,40,none⟩ v).heap[k]?=w'.heap[k]?:=fun ht _ _ _ hk=>heap_setCell_other _ _ _ _ (by exact ne_of_types hk hb ht)
 have M1:Mem w' ao mn r.m:=mem_keep D.mem fun ad e h0 hl=>q.block _ hl (fun x=>(D.far ad e h0).2.2 x.symm)
 have hml:∀ad,ao=some ad→0<mn→ad.block<w.heap.size:=fun ad e h0=>by
  have:=World.block_lt_of_cell? w _ (D.mem.cell ad e 0 h0)
  rwa [add_block] at this
 refine ⟨(cell_of_row _ _ _ _ _ _ hb).trans ((D.cell 40).symm.trans (D.top 3)),frozen_of_row _ _ _ _ _ hb,⟨⟨D.ok.h,D.ok.tl,D.ok.tb,D.ok.h0,D.ok.h1⟩,D.ml,D.bg,?_,mem_keep M1 fun ad e h0 _=>heap_setCell_other _ _ _ _ (by exact (D.far ad e h0).1),fun ad e h0=>⟨(D.far ad e h0).1,(D.far ad e h0).2.1,?_⟩,owns_to (owns_to D.out fun k o f hk=>st (by decide) hk) fun k o f hk=>ne (by decide) hk,owns_to ho fun k o f hk=>ne (by decide) hk⟩,?_⟩
 ·rw [heap_setCell_same _ _ _ _ _ _ hb]
  congr 2
  exact gA_setTop (j:=3) D.ok.h rfl
 ·rcases hv with hv|hv
  ·rw [hv];exact (D.far ad e h0).2.2
  ·rw [hv];intro x
   have:=hml ad e h0
   injection x with x
   omega
 ·refine ⟨Below.setCell ((Below.refl base w).grown q D.base_le fun k e=>(D.sto.lt k e).1) (by exact D.bg) _,fun k o t f e n1 n2 n3=>?_⟩
  have e1:=st n3 e
  exact (heap_setCell_other _ _ _ _ (by exact n1)).trans e1
end
theorem u32_one1 (os:List Int):∀u∈os.map (Value.int .u32),u.oneCell'=true:=fun u hu=>by
 obtain ⟨b,_,rfl⟩:=List.mem_map.1 hu
 rfl
end Go.Proofs.YtkdghgiajifbdaaDoor.Ts
