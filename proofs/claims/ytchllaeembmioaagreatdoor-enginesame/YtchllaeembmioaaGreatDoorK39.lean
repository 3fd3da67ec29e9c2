/-
  Ref5p: texts of ours that lie in one file.
-/
import Derived.Test.YtchllaeembmioaaGreatDoorK33
import Derived.Test.YtchllaeembmioaaGreatDoorK38
import Derived.Maps.AppendAt
set_option linter.unusedVariables false
set_option linter.unusedSimpArgs false
set_option maxHeartbeats 8000000
set_option maxRecDepth 100000
namespace Go.Proofs.YtchllaeembmioaaGreatDoor.Mc
open Go.ChangeShapes Go.WideShapes Go.ChangeAt Go.RowKit Mm Hh Hc

section
variable {P : Program} {w : World} {base e size bytes n m : Nat} {i : TypeInfo} {z : Value} {t : TypeId}
theorem run_append_src_at (ty:TypeId)(h1:P.underlying t=some (.slice e))(h2:P.info? e=some i)(h3:i.zero=some z)(h4:i.size=size)(h5:i.bytes=bytes)(h6:z.cells.size=size)(h7:0<size)
  {v vx:Value}{olds news:List Value}(hown:w.ownsRow base e size v n olds)(hsrc:Src w vx m size news)(h1c:∀u∈news,u.oneCell'=true)(b1:n+m≤maxLen)(b2:(n+m)*bytes≤140737488355328)(hbase:base≤w.heap.size):
  ∃v' w',(Builtin.append_ #[t,t] ty #[v,vx]).run P w=.ok v' w'∧w'.ownsRow base e size v' (n+m) (olds++news)∧w.grownBy w' v.ownBlock∧(v'.ownBlock=v.ownBlock∨v'.ownBlock=some w.heap.size):=by
 rcases hsrc with ⟨rfl,rfl,rfl⟩|⟨ad,c,rfl,hl,hc⟩
 ·exact ⟨v,w,run_append_owned_none w base t ty e i size h1 h2 v n olds hown,by simpa using hown,⟨rfl,rfl,rfl,Nat.le_refl _,fun _ _ _=>rfl⟩,.inl rfl⟩
 ·obtain ⟨v',w',hrun,r1,r2,_,r4⟩:=run_append_own_at (P:=P) w base t ty e i z size bytes h1 h2 h3 h4 h5 h6 h7 v n olds hown ad m c news hl hc h1c b1 b2 hbase
  exact ⟨v',w',hrun,r1,r2,r4⟩
theorem wpList_append_src_at {ops:Array Oper}{rest:List Oper}{o:Oper}{a:Act}{Q:Exit→Act→World→Prop}
  (hg:o.guard=none)(s x:Operand)(hop:o.op=Op.call { callee:=Callee.builtin Builtin.append,args:=#[s,x],argTypes:=#[t,t] })
  (h1:P.underlying t=some (.slice e))(h2:P.info? e=some i)(h3:i.zero=some z)(h4:i.size=size)(h5:i.bytes=bytes)(h6:z.cells.size=size)(h7:0<size)
  {v vx:Value}{olds news:List Value}(hs:a.eval s=v)(hx:a.eval x=vx)(hown:w.ownsRow base e size v n olds)(hsrc:Src w vx m size news)(h1c:∀u∈news,u.oneCell'=true)(b1:n+m≤maxLen)(b2:(n+m)*bytes≤140737488355328)(hbase:base≤w.heap.size)
  (hK:∀v' w',w'.ownsRow base e size v' (n+m) (olds++news)→w.grownBy w' v.ownBlock→(v'.ownBlock=v.ownBlock∨v'.ownBlock=some w.heap.size)→wpList P ops Q rest (a.put o.dst v') w'):wpList P ops Q (o::rest) a w:=by
 refine wpList_plain hg fun K hk=>?_
 obtain ⟨v',w',hrun,r1,r2,r3⟩:=run_append_src_at (P:=P) o.type h1 h2 h3 h4 h5 h6 h7 hown hsrc h1c b1 b2 hbase
 unfold Oper.wp
 simp [execOp,hop,resolve,invoke,builtin,hs,hx,hrun,Result.andThen]
 exact hk _ _ (hK v' w' r1 r2 r3)
end
theorem mem_keep {w w':World}{ma:Option Addr}{mn:Nat}{l:List UInt8}(M:Mem w ma mn l)(h:∀ad,ma=some ad→0<mn→ad.block<w.heap.size→w'.heap[ad.block]?=w.heap[ad.block]?):Mem w' ma mn l:=by
 by_cases h0:mn=0
 ·exact ⟨M.len,M.nil,fun ad e t ht=>absurd ht (by omega)⟩
 ·refine M.apart fun ad e=>h ad e (by omega) ?_
  have:=World.block_lt_of_cell? w _ (M.cell ad e 0 (by omega))
  rwa [add_block] at this
structure Pb (w:World) (base g:Nat) (ma:Option Addr) (mn mc gh hc:Nat) (O:Value) (s:Sh):Prop where
 bg:base≤g
 blk:w.heap[g]?=some (.cells #[.slice ma mn mc,.slice (some ⟨gh,0,none⟩) s.hs.length hc,O,.int .i64 s.steps] 32 (0,0))
 mem:Mem w ma mn s.m
 far:∀ad,ma=some ad→0<mn→ad.block≠g∧ad.block≠gh∧O.ownBlock≠some ad.block
 bh:base≤gh
 row:HRow w gh s.hs
 out:w.ownsRow base 42 1 O s.out.length (s.out.map (Value.int .u32))
theorem Pb.glt {w:World}{base g:Nat}{ma:Option Addr}{mn mc gh hc:Nat}{O:Value}{s:Sh}(B:Pb w base g ma mn mc gh hc O s):g<w.heap.size:=(Array.getElem?_eq_some_iff.1 B.blk).1
theorem Pb.base_le {w:World}{base g:Nat}{ma:Option Addr}{mn mc gh hc:Nat}{O:Value}{s:Sh}(B:Pb w base g ma mn mc gh hc O s):base≤w.heap.size:=Nat.le_trans B.bg (Nat.le_of_lt B.glt)
theorem Pb.of {w w':World}{base g:Nat}{ma:Option Addr}{mn mc gh hc:Nat}{O:Value}{s:Sh}(B:Pb w base g ma mn mc gh hc O s)(G:Gr w w'):Pb w' base g ma mn mc gh hc O s:=
 ⟨B.bg,Hr.heap_of_gr G B.blk,B.mem.of G,B.far,B.bh,B.row.of G,owns_gr B.out G⟩
theorem Pb.cell {w:World}{base g:Nat}{ma:Option Addr}{mn mc gh hc:Nat}{O:Value}{s:Sh}(B:Pb w base g ma mn mc gh hc O s)(i:Nat):w.cell? ⟨g,i,none⟩=(#[.slice ma mn mc,.slice (some ⟨gh,0,none⟩) s.hs.length hc,O,.int .i64 s.steps]:Array Value)[i]?:=cell_of_row _ _ _ _ _ _ B.blk
theorem Pb.fz {w:World}{base g:Nat}{ma:Option Addr}{mn mc gh hc:Nat}{O:Value}{s:Sh}(B:Pb w base g ma mn mc gh hc O s)(i:Nat):w.frozen? ⟨g,i,none⟩=false:=frozen_of_row _ _ _ _ _ B.blk
theorem Pb.ch {w w':World}{base g:Nat}{ma:Option Addr}{mn mc gh hc:Nat}{O:Value}{s:Sh}(B:Pb w base g ma mn mc gh hc O s)(q:Ch gh w w'){hs:List Hv}(R:HRow w' gh hs)(hl:hs.length=s.hs.length):Pb w' base g ma mn mc gh hc O ⟨hs,s.m,s.out,s.steps⟩:=
 ⟨B.bg,by show w'.heap[g]?=some (.cells #[.slice ma mn mc,.slice (some ⟨gh,0,none⟩) hs.length hc,O,.int .i64 s.steps] _ _);rw [hl];exact (ch_keep B.row q (by decide) B.blk).trans B.blk,
  mem_keep B.mem fun ad e h0 hb=>q.block _ hb (fun x=>(B.far ad e h0).2.1 (by injection x)),B.far,B.bh,R,owns_to B.out fun k o f hk=>ch_keep B.row q (by decide) hk⟩
theorem Pb.setC {w:World}{base g:Nat}{ma:Option Addr}{mn mc gh hc:Nat}{O:Value}{s:Sh}(B:Pb w base g ma mn mc gh hc O s)(i:Nat)(v:Value):
  Mem (w.setCell ⟨g,i,none⟩ v) ma mn s.m∧HRow (w.setCell ⟨g,i,none⟩ v) gh s.hs∧(w.setCell ⟨g,i,none⟩ v).ownsRow base 42 1 O s.out.length (s.out.map (Value.int .u32)):=by
 have ne:∀{t:Nat},t≠32→∀{k:Nat} {o:Array Value} {f:Nat×Nat},w.heap[k]?=some (.cells o t f)→(w.setCell ⟨g,i,none⟩ v).heap[k]?=w.heap[k]?:=fun ht _ _ _ hk=>heap_setCell_other _ _ _ _ (by exact ne_of_types hk B.blk ht)
 exact ⟨mem_keep B.mem fun ad e h0 _=>heap_setCell_other _ _ _ _ (by exact (B.far ad e h0).1),B.row.to fun k o f hk=>ne (by decide) hk,owns_to B.out fun k o f hk=>ne (by decide) hk⟩
theorem Pb.setN {w:World}{base g:Nat}{ma:Option Addr}{mn mc gh hc:Nat}{O:Value}{s:Sh}(B:Pb w base g ma mn mc gh hc O s)(n':Nat):Pb (w.setCell ⟨g,3,none⟩ (.int .i64 n')) base g ma mn mc gh hc O ⟨s.hs,s.m,s.out,n'⟩:=
 ⟨B.bg,by rw [heap_setCell_same _ _ _ _ _ _ B.blk];rfl,(B.setC _ _).1,B.far,B.bh,(B.setC _ _).2.1,(B.setC _ _).2.2⟩
theorem Pb.setM {w:World}{base g:Nat}{ma:Option Addr}{mn mc gh hc:Nat}{O:Value}{s:Sh}(B:Pb w base g ma mn mc gh hc O s){ma':Option Addr}{mn':Nat}(mc':Nat){m':List UInt8}(M:Mem w ma' mn' m')(far:∀ad,ma'=some ad→0<mn'→ad.block≠g∧ad.block≠gh∧O.ownBlock≠some ad.block):
  Pb (w.setCell ⟨g,0,none⟩ (.slice ma' mn' mc')) base g ma' mn' mc' gh hc O ⟨s.hs,m',s.out,s.steps⟩:=
 ⟨B.bg,by rw [heap_setCell_same _ _ _ _ _ _ B.blk];rfl,mem_keep M fun ad e h0 _=>heap_setCell_other _ _ _ _ (by exact (far ad e h0).1),far,B.bh,(B.setC _ _).2.1,(B.setC _ _).2.2⟩
theorem Pb.grown {w w':World}{base g:Nat}{ma:Option Addr}{mn mc gh hc:Nat}{O:Value}{s:Sh}(B:Pb w base g ma mn mc gh hc O s)(q:w.grownBy w' O.ownBlock){v:Value}{os:List Int}(ho:w'.ownsRow base 42 1 v os.length (os.map (Value.int .u32)))(hv:v.ownBlock=O.ownBlock∨v.ownBlock=some w.heap.size):
  w'.cell? ⟨g,2,none⟩=some O∧w'.frozen? ⟨g,2,none⟩=false∧Pb (w'.setCell ⟨g,2,none⟩ v) base g ma mn mc gh hc v ⟨s.hs,s.m,os,s.steps⟩∧Below base w (w'.setCell ⟨g,2,none⟩ v):=by
 have st:∀{t:Nat},t≠42→∀{k:Nat} {o:Array Value} {f:Nat×Nat},w.heap[k]?=some (.cells o t f)→w'.heap[k]?=w.heap[k]?:=fun ht _ _ _ hk=>grown_keep B.out q ht hk
 have hb:=(st (by decide) B.blk).trans B.blk
 have ne:∀{t:Nat},t≠32→∀{k:Nat} {o:Array Value} {f:Nat×Nat},w'.heap[k]?=some (.cells o t f)→(w'.setCell ⟨g,2,none⟩ v).heap[k]?=w'.heap[k]?:=fun ht _ _ _ hk=>heap_setCell_other _ _ _ _ (by exact ne_of_types hk hb ht)
 have two:∀{t:Nat},t≠32→t≠42→∀{k:Nat} {o:Array Value} {f:Nat×Nat},w.heap[k]?=some (.cells o t f)→(w'.setCell ⟨g,2,none⟩ v).heap[k]?=w.heap[k]?:=fun h1 h2 _ _ _ hk=>by
  have e:=st h2 hk
  exact (ne h1 (e.trans hk)).trans e
 have M1:Mem w' ma mn s.m:=mem_keep B.mem fun ad e h0 hb=>q.block _ hb (fun x=>(B.far ad e h0).2.2 x.symm)
 refine ⟨cell_of_row _ _ _ _ _ _ hb,frozen_of_row _ _ _ _ _ hb,⟨B.bg,by rw [heap_setCell_same _ _ _ _ _ _ hb];rfl,mem_keep M1 fun ad e h0 _=>heap_setCell_other _ _ _ _ (by exact (B.far ad e h0).1),fun ad e h0=>?_,B.bh,B.row.to fun k o f hk=>two (by decide) (by decide) hk,owns_to ho fun k o f hk=>ne (by decide) hk⟩,?_⟩
 ·refine ⟨(B.far ad e h0).1,(B.far ad e h0).2.1,?_⟩
  rcases hv with h|h
  ·rw [h];exact (B.far ad e h0).2.2
  ·rw [h]
   intro x
   have h1:=World.block_lt_of_cell? w _ (B.mem.cell ad e 0 h0)
   rw [add_block] at h1
   injection x with x
   omega
 ·refine Below.setCell ((Below.refl base w).grown q B.base_le fun k e=>(B.out.lt k e).1) (by exact B.bg) _
def loseU (k:Nat) (ss:List (Int×Int)) (hs:List Hv) (j:Nat):List Hv:=hs.mapIdx fun i h=>if i<j∧i≠k then lose1 ss h else h
theorem loseU_get (k:Nat)(ss:List (Int×Int))(hs:List Hv)(j i:Nat):(loseU k ss hs j)[i]?=hs[i]?.map fun h=>if i<j∧i≠k then lose1 ss h else h:=by
 simp [loseU,List.getElem?_mapIdx]
theorem loseU_len (k:Nat)(ss:List (Int×Int))(hs:List Hv)(j:Nat):(loseU k ss hs j).length=hs.length:=by simp [loseU]
theorem loseU_zero (k:Nat)(ss:List (Int×Int))(hs:List Hv):loseU k ss hs 0=hs:=by
 apply List.ext_getElem?
 intro i
 rw [loseU_get]
 cases hs[i]?<;>simp
theorem loseU_all (k:Nat)(ss:List (Int×Int))(hs:List Hv):loseU k ss hs hs.length=lose k ss hs:=by
 apply List.ext_getElem?
 intro i
 rw [loseU_get,lose_get]
 cases h:hs[i]? with
 | none=>rfl
 | some q=>
  have:=(List.getElem?_eq_some_iff.1 h).1
  by_cases e:i=k
  ·simp [e]
  ·simp [e,this]
theorem loseU_succ (k:Nat)(ss:List (Int×Int)){hs:List Hv}{j:Nat}{h:Hv}(hj:hs[j]?=some h):loseU k ss hs (j+1)=(loseU k ss hs j).set j (if j≠k then lose1 ss h else h):=by
 have hl:=(List.getElem?_eq_some_iff.1 hj).1
 apply List.ext_getElem?
 intro i
 rw [loseU_get,List.getElem?_set,loseU_len,loseU_get]
 by_cases e:j=i
 ·subst e
  rw [hj]
  simp [hl]
 ·rw [if_neg e]
  congr 1
  funext q
  have:(i<j+1∧i≠k)↔(i<j∧i≠k):=by omega
  simp only [this]
end Go.Proofs.YtchllaeembmioaaGreatDoor.Mc
