/-
  Mb7, Rm5, Tc, Kf, Ki: texts of ours that lie in one file.
-/
import Derived.Test.YtchllaeembmioaaGreatDoorK17
import Derived.Laws.OwnMore
import Derived.Test.YtchllaeembmioaaGreatDoorK05
import Derived.Test.YtchllaeembmioaaGreatDoorK02
import Derived.Test.YtchllaeembmioaaGreatDoorK16
import Derived.Test.YtchllaeembmioaaGreatDoorK01
import Derived.Test.YtchllaeembmioaaGreatDoorK03
import Derived.Test.YtchllaeembmioaaGreatDoorK11
import Derived.Test.YtchllaeembmioaaGreatDoorK12
import Derived.Deep.RegionHeld3
import Derived.Test.YtchllaeembmioaaGreatDoorK04
set_option linter.unusedVariables false
set_option linter.unusedSimpArgs false
set_option maxHeartbeats 8000000
set_option maxRecDepth 100000
namespace Go.Proofs.YtchllaeembmioaaGreatDoor.Mc
open Go.ChangeShapes Go.WideShapes Go.ChangeAt Go.RowKit Mm Hh Hc

variable {ty : Nat} {rs : List Value}
def Src (w:World) (vx:Value) (m sz:Nat) (news:List Value):Prop:=
 (vx=.slice none 0 0∧m=0∧news=[])∨∃ad c,vx=.slice (some ad) m c∧news.length=m*sz∧∀j u,news[j]?=some u→w.cell? (ad.add j)=some u
theorem Src.own {w:World}{base e sz n:Nat}{v:Value}{xs:List Value}(h:w.ownsRow base e sz v n xs):Src w v n sz xs:=by
 obtain ⟨hl,h⟩:=h
 rcases h with ⟨rfl,rfl⟩|⟨g,cap,cur,rfl,_,hg,_,_,_,ht⟩
 ·exact .inl ⟨rfl,rfl,List.eq_nil_of_length_eq_zero (by simpa using hl)⟩
 ·refine .inr ⟨_,cap,rfl,hl,fun j u hj=>?_⟩
  rw [add_at,Nat.zero_add,cr hg]
  rw [←ht] at hj
  rw [List.getElem?_take] at hj
  split at hj
  ·simpa using hj
  ·cases hj
section
variable {P : Program} {w : World} {base e size bytes n m : Nat} {i : TypeInfo} {z : Value} {t : TypeId}
theorem run_append_src (ty:TypeId)(h1:P.underlying t=some (.slice e))(h2:P.info? e=some i)(h3:i.zero=some z)(h4:i.size=size)(h5:i.bytes=bytes)(h6:z.cells.size=size)(h7:0<size)
  {v vx:Value}{olds news:List Value}(hown:w.ownsRow base e size v n olds)(hsrc:Src w vx m size news)(h1c:∀u∈news,u.oneCell'=true)(b1:n+m≤maxLen)(b2:(n+m)*bytes≤140737488355328)(hbase:base≤w.heap.size):
  ∃v' w',(Builtin.append_ #[t,t] ty #[v,vx]).run P w=.ok v' w'∧w'.ownsRow base e size v' (n+m) (olds++news)∧w.grownBy w' v.ownBlock:=by
 rcases hsrc with ⟨rfl,rfl,rfl⟩|⟨ad,c,rfl,hl,hc⟩
 ·exact ⟨v,w,run_append_owned_none w base t ty e i size h1 h2 v n olds hown,by simpa using hown,⟨rfl,rfl,rfl,Nat.le_refl _,fun _ _ _=>rfl⟩⟩
 ·obtain ⟨v',w',hrun,r1,r2,_⟩:=run_append_own (P:=P) w base t ty e i z size bytes h1 h2 h3 h4 h5 h6 h7 v n olds hown ad m c news hl hc h1c b1 b2 hbase
  exact ⟨v',w',hrun,r1,r2⟩
theorem step_append_src {ops:Array Oper}{o:Oper}{a:Act}{K:Act→World→Prop}{Q:Exit→Act→World→Prop}{E:Prop}
  (hg:o.guard=none)(s x:Operand)(hop:o.op=Op.call { callee:=Callee.builtin Builtin.append,args:=#[s,x],argTypes:=#[t,t] })
  (h1:P.underlying t=some (.slice e))(h2:P.info? e=some i)(h3:i.zero=some z)(h4:i.size=size)(h5:i.bytes=bytes)(h6:z.cells.size=size)(h7:0<size)
  {v vx:Value}{olds news:List Value}(hs:a.eval s=v)(hx:a.eval x=vx)(hown:w.ownsRow base e size v n olds)(hsrc:Src w vx m size news)(h1c:∀u∈news,u.oneCell'=true)(b1:n+m≤maxLen)(b2:(n+m)*bytes≤140737488355328)(hbase:base≤w.heap.size)
  (hK:∀v' w',w'.ownsRow base e size v' (n+m) (olds++news)→w.grownBy w' v.ownBlock→K (a.put o.dst v') w'):
  if Region.wanted o (yielded ops a.tmps)=true then Oper.wp P o a w K Q else E:=by
 have hw:Region.wanted o (yielded ops a.tmps)=true:=by simp [Region.wanted,hg]
 rw [if_pos hw]
 obtain ⟨v',w',hrun,r1,r2⟩:=run_append_src (P:=P) o.type h1 h2 h3 h4 h5 h6 h7 hown hsrc h1c b1 b2 hbase
 unfold Oper.wp
 simp [execOp,hop,resolve,invoke,builtin,hs,hx,hrun,Result.andThen]
 exact hK v' w' r1 r2
theorem wpList_append_src {ops:Array Oper}{rest:List Oper}{o:Oper}{a:Act}{Q:Exit→Act→World→Prop}
  (hg:o.guard=none)(s x:Operand)(hop:o.op=Op.call { callee:=Callee.builtin Builtin.append,args:=#[s,x],argTypes:=#[t,t] })
  (h1:P.underlying t=some (.slice e))(h2:P.info? e=some i)(h3:i.zero=some z)(h4:i.size=size)(h5:i.bytes=bytes)(h6:z.cells.size=size)(h7:0<size)
  {v vx:Value}{olds news:List Value}(hs:a.eval s=v)(hx:a.eval x=vx)(hown:w.ownsRow base e size v n olds)(hsrc:Src w vx m size news)(h1c:∀u∈news,u.oneCell'=true)(b1:n+m≤maxLen)(b2:(n+m)*bytes≤140737488355328)(hbase:base≤w.heap.size)
  (hK:∀v' w',w'.ownsRow base e size v' (n+m) (olds++news)→w.grownBy w' v.ownBlock→wpList P ops Q rest (a.put o.dst v') w'):wpList P ops Q (o::rest) a w:=by
 refine wpList_plain hg fun K hk=>?_
 obtain ⟨v',w',hrun,r1,r2⟩:=run_append_src (P:=P) o.type h1 h2 h3 h4 h5 h6 h7 hown hsrc h1c b1 b2 hbase
 unfold Oper.wp
 simp [execOp,hop,resolve,invoke,builtin,hs,hx,hrun,Result.andThen]
 exact hk _ _ (hK v' w' r1 r2)
end
theorem step_store_mid {P:Program}{ops:Array Oper}{o:Oper}{a:Act}{w:World}{K:Act→World→Prop}{Q:Exit→Act→World→Prop}{E:Prop}(hg:o.guard=none)(ty:TypeId)(x y:Operand)(ho:o.op=.store ty x y)
  (b j:Nat)(cells:Array Value)(hx:a.eval x=.pointer (some ⟨b,j,none⟩))(hy:a.eval y=.agg cells)(ht:w.there b j cells.size)(hi:(P.info? ty).map (·.size)=some cells.size)(h1:cells.all (·.oneCell')=true)
  (h:K (a.put o.dst undef) (w.setCells b j cells.toList)):if Region.wanted o (yielded ops a.tmps)=true then Oper.wp P o a w K Q else E:=by
 rw [if_pos (by simp [Region.wanted,hg])]
 exact wp_store_mid ty x y ho b j cells hx hy ht hi h1 h
theorem held_store_mid {P:Program}{md:Region.Mode}{ops:Array Oper}{Q:Exit→Act→World→Prop}{S:World→Prop}{fuel i:Nat}{listed:Array Bool}{o:Oper}{a:Act}{w:World}(hr:Region.ready md ops listed=[i])(hoi:ops[i]?=some o)(hg:o.guard=none)(ty:TypeId)(x y:Operand)(ho:o.op=.store ty x y)
  (b j:Nat)(cells:Array Value)(hx:a.eval x=.pointer (some ⟨b,j,none⟩))(hy:a.eval y=.agg cells)(ht:w.there b j cells.size)(hi:(P.info? ty).map (·.size)=some cells.size)(h1:cells.all (·.oneCell')=true)
  (hS:S (w.setCells b j cells.toList))(h:wpAnyH P md ops Q S fuel (listed.setIfInBounds i true) (a.put o.dst undef) (w.setCells b j cells.toList)):wpAnyH P md ops Q S (fuel+1) listed a w:=
 wpAnyH_ready hr (by simp) (AllReadyH.cons hoi (fun K hK=>step_store_mid hg ty x y ho b j cells hx hy ht hi h1 (hK.out _ _ hS fun _=>h)) AllReadyH.nil)
theorem words_one (os:List Int):∀u∈os.map (Value.int .u32),u.oneCell'=true:=by
 intro u hu
 obtain ⟨b,_,rfl⟩:=List.mem_map.1 hu
 rfl
theorem infoW:(Tryz.prog.info? 42).map (fun i=>(i.zero,i.size,i.bytes))=some (some (Value.int .u32 0),1,4):=by kernel_rfl
theorem ch_keep {w w':World}{gh:Nat}{hs:List Hv}(R:HRow w gh hs)(q:Ch gh w w'){t:Nat}(ht:t≠51){k:Nat}{o:Array Value}{f:Nat×Nat}(hk:w.heap[k]?=some (.cells o t f)):w'.heap[k]?=w.heap[k]?:=by
 obtain ⟨rest,e⟩:=R.row
 exact q.block k (gs hk).1 (fun h=>ne_of_types hk e ht (by injection h))
theorem Bw.ch {w w':World}{base g gh hc:Nat}{M O:Value}{s:Sh}(B:Bw ty rs w base g M gh hc O s)(q:Ch gh w w'){hs:List Hv}(R:HRow w' gh hs)(hl:hs.length=s.hs.length):Bw ty rs w' base g M gh hc O ⟨hs,s.m,s.out,s.steps⟩:=
 ⟨B.t1,B.t2,B.t3,B.bg,by show w'.heap[g]?=some (.cells (M::.slice (some ⟨gh,0,none⟩) hs.length hc::O::.int .i64 s.steps::rs).toArray _ _);rw [hl];exact (ch_keep B.row q B.t3 B.blk).trans B.blk,B.mem.to fun k o f hk=>ch_keep B.row q (by decide) hk,B.bh,R,owns_to B.out fun k o f hk=>ch_keep B.row q (by decide) hk⟩
theorem Dq.ch {w w':World}{b gh:Nat}{d:Qv}{x:Wk}{hs:List Hv}(D:Dq w b d x)(R:HRow w gh hs)(q:Ch gh w w'):Dq w' b d x:=
 ⟨D.hh,D.n,D.mem.to fun k o f hk=>ch_keep R q (by decide) hk,owns_to D.out fun k o f hk=>ch_keep R q (by decide) hk,owns_to D.sto fun k o f hk=>ch_keep R q (by decide) hk⟩
theorem Ch.ofGr {g:Nat}{w w':World}(G:Gr w w'):Ch g w w':=(Ch.refl g w).gr G
theorem Dq.gr {w w':World}{b:Nat}{d:Qv}{x:Wk}(D:Dq w b d x)(G:Gr w w'):Dq w' b d x:=
 ⟨D.hh,D.n,own_gr D.mem G,owns_gr D.out G,owns_gr D.sto G⟩
theorem Ch.setCells {g:Nat}{a w:World}(h:Ch g a w):∀(vs:List Value) (o:Nat),Ch g a (w.setCells g o vs)
 | [],o=>h
 | v::r,o=>by rw [World.setCells];exact Ch.setCells (h.setCell o v) r (o+1)
theorem Bw.fz {w:World}{base g gh hc:Nat}{M O:Value}{s:Sh}(B:Bw ty rs w base g M gh hc O s)(i:Nat):w.frozen? ⟨g,i,none⟩=false:=fzr B.blk
theorem Bw.base_le {w:World}{base g gh hc:Nat}{M O:Value}{s:Sh}(B:Bw ty rs w base g M gh hc O s):base≤w.heap.size:=Nat.le_trans B.bg (Nat.le_of_lt (gs B.blk).1)
theorem bw_other {w:World}{base g gh hc:Nat}{M O:Value}{s:Sh}(B:Bw ty rs w base g M gh hc O s)(i:Nat)(v:Value){t:Nat}(ht:t≠ty){k:Nat}{o:Array Value}{f:Nat×Nat}(hk:w.heap[k]?=some (.cells o t f)):(w.setCell ⟨g,i,none⟩ v).heap[k]?=w.heap[k]?:=
 hso (by exact ne_of_types hk B.blk ht)
theorem HRow.to {w w':World}{g:Nat}{hs:List Hv}(r:HRow w g hs)(h:∀(k:Nat) (o:Array Value) (f:Nat×Nat),w.heap[k]?=some (.cells o 51 f)→w'.heap[k]?=w.heap[k]?):HRow w' g hs:=by
 obtain ⟨rest,e⟩:=r.row
 exact ⟨r.ok,rest,(h _ _ _ e).trans e⟩
theorem Bw.setM {w:World}{base g gh hc:Nat}{M O:Value}{s:Sh}(B:Bw ty rs w base g M gh hc O s){M':Value}{m':List UInt8}(h:Own w 0 M' m'):Bw ty rs (w.setCell ⟨g,0,none⟩ M') base g M' gh hc O ⟨s.hs,m',s.out,s.steps⟩:=
 ⟨B.t1,B.t2,B.t3,B.bg,by rw [hss B.blk];simp,h.to fun k o f hk=>bw_other B _ _ B.t1.symm hk,B.bh,B.row.to fun k o f hk=>bw_other B _ _ B.t3.symm hk,owns_to B.out fun k o f hk=>bw_other B _ _ B.t2.symm hk⟩
theorem Bw.setN {w:World}{base g gh hc:Nat}{M O:Value}{s:Sh}(B:Bw ty rs w base g M gh hc O s)(n':Nat):Bw ty rs (w.setCell ⟨g,3,none⟩ (.int .i64 n')) base g M gh hc O ⟨s.hs,s.m,s.out,n'⟩:=
 ⟨B.t1,B.t2,B.t3,B.bg,by rw [hss B.blk];simp,B.mem.to fun k o f hk=>bw_other B _ _ B.t1.symm hk,B.bh,B.row.to fun k o f hk=>bw_other B _ _ B.t3.symm hk,owns_to B.out fun k o f hk=>bw_other B _ _ B.t2.symm hk⟩
theorem Bw.setR {w:World}{base g gh hc:Nat}{M O:Value}{s:Sh}(B:Bw ty rs w base g M gh hc O s)(i:Nat)(v:Value):Bw ty (rs.set i v) (w.setCell ⟨g,4+i,none⟩ v) base g M gh hc O s:=
 ⟨B.t1,B.t2,B.t3,B.bg,by rw [hss B.blk,List.setIfInBounds_toArray,Nat.add_comm];rfl,B.mem.to fun k o f hk=>bw_other B _ _ B.t1.symm hk,B.bh,B.row.to fun k o f hk=>bw_other B _ _ B.t3.symm hk,owns_to B.out fun k o f hk=>bw_other B _ _ B.t2.symm hk⟩
structure Fe (ty:Nat) (base:Nat) (w w':World):Prop where
 below:Below base w w'
 keep:∀(k:Nat) (o:Obj),w.heap[k]?=some o→(∀q f,¬o=.cells q ty f)→(∀q f,¬o=.cells q 51 f)→(∀q f,¬o=.cells q 42 f)→w'.heap[k]?=some o
theorem Fe.refl (base:Nat)(w:World):Fe ty base w w:=⟨Below.refl _ _,fun _ _ h _ _ _=>h⟩
theorem Fe.trans {base:Nat}{a b c:World}(h:Fe ty base a b)(k:Fe ty base b c):Fe ty base a c:=⟨h.below.trans k.below,fun i o e t1 t2 t3=>k.keep i o (h.keep i o e t1 t2 t3) t1 t2 t3⟩
theorem Fe.ofGr {base:Nat}{w w':World}(G:Gr w w')(hb:base≤w.heap.size):Fe ty base w w':=⟨Below.mono G hb,fun i o e _ _ _=>(G.block i (gs e).1).trans e⟩
theorem Fe.drew {base:Nat}{a w:World}(h:Fe ty base a w):Fe ty base a w.drew:=⟨h.below.drew,h.keep⟩
theorem Fe.ch {base:Nat}{w w':World}{gh:Nat}{hs:List Hv}(R:HRow w gh hs)(q:Ch gh w w')(hg:base≤gh)(hb:base≤w.heap.size):Fe ty base w w':=⟨q.below hg hb,fun i o e _ t2 _=>by
 obtain ⟨rest,e2⟩:=R.row
 refine (q.block i (gs e).1 (fun h=>?_)).trans e
 injection h with h
 subst h
 rw [e2] at e
 injection e with e
 exact t2 _ _ e.symm⟩
theorem Fe.setCell {base:Nat}{a w:World}{g:Nat}{Y:Array Value}{f:Nat×Nat}(h:Fe ty base a w)(hy:w.heap[g]?=some (.cells Y ty f))(hg:base≤g)(i:Nat)(v:Value):Fe ty base a (w.setCell ⟨g,i,none⟩ v):=⟨Below.setCell h.below (by exact hg) _,fun k o e t1 t2 t3=>by
 have e2:=h.keep k o e t1 t2 t3
 rw [hso (by
  show k≠g
  intro ek
  subst ek
  rw [hy] at e2
  injection e2 with e2
  exact t1 _ _ e2.symm)]
 exact e2⟩
theorem Fe.grown {base:Nat}{w w':World}{O:Value}{n:Nat}{xs:List Value}(hO:w.ownsRow base 42 1 O n xs)(q:w.grownBy w' O.ownBlock)(hb:base≤w.heap.size):Fe ty base w w':=⟨(Below.refl base w).grown q hb fun k e=>(hO.lt k e).1,fun k o e _ _ t3=>(q.block k (gs e).1 (fun h=>by
  rcases hO.2 with ⟨h0,_⟩|⟨g',cap,cur,hv,_,hg,_⟩
  ·rw [h0] at h;cases h
  ·rw [hv] at h
   injection h with h
   subst h
   rw [hg] at e
   injection e with e
   exact t3 _ _ e.symm)).trans e⟩
theorem Fe.cells {base:Nat}{w w':World}(h:Fe ty base w w'){k:Nat}{q:Array Value}{t:Nat}{f:Nat×Nat}(e:w.heap[k]?=some (.cells q t f))(t1:t≠ty)(t2:t≠51)(t3:t≠42):w'.heap[k]?=w.heap[k]?:=
 (h.keep k _ e (fun _ _ c=>t1 (by injection c)) (fun _ _ c=>t2 (by injection c)) (fun _ _ c=>t3 (by injection c))).trans e.symm
theorem grown_keep {w w':World}{base:Nat}{O:Value}{n:Nat}{xs:List Value}{e sz:Nat}(hO:w.ownsRow base e sz O n xs)(q:w.grownBy w' O.ownBlock){t:Nat}(ht:t≠e){k:Nat}{o:Array Value}{f:Nat×Nat}(hk:w.heap[k]?=some (.cells o t f)):w'.heap[k]?=w.heap[k]?:=
 q.block k (gs hk).1 (fun h=>by
  rcases hO.2 with ⟨h0,_⟩|⟨g',cap,cur,hv,_,hg,_⟩
  ·rw [h0] at h;cases h
  ·rw [hv] at h
   injection h with h
   exact ne_of_types hk hg ht h)
theorem Bw.grown {w w':World}{base g gh hc:Nat}{M O:Value}{s:Sh}(B:Bw ty rs w base g M gh hc O s)(q:w.grownBy w' O.ownBlock){v:Value}{os:List Int}(ho:w'.ownsRow base 42 1 v os.length (os.map (Value.int .u32))):
  w'.cell? ⟨g,2,none⟩=some O∧w'.frozen? ⟨g,2,none⟩=false∧Bw ty rs (w'.setCell ⟨g,2,none⟩ v) base g M gh hc v ⟨s.hs,s.m,os,s.steps⟩∧Fe ty base w (w'.setCell ⟨g,2,none⟩ v):=by
 have st:∀{t:Nat},t≠42→∀{k:Nat} {o:Array Value} {f:Nat×Nat},w.heap[k]?=some (.cells o t f)→w'.heap[k]?=w.heap[k]?:=fun ht _ _ _ hk=>grown_keep B.out q ht hk
 have hb:=(st B.t2 B.blk).trans B.blk
 have ne:∀{t:Nat},t≠ty→∀{k:Nat} {o:Array Value} {f:Nat×Nat},w'.heap[k]?=some (.cells o t f)→(w'.setCell ⟨g,2,none⟩ v).heap[k]?=w'.heap[k]?:=fun ht _ _ _ hk=>hso (by exact ne_of_types hk hb ht)
 have two:∀{t:Nat},t≠ty→t≠42→∀{k:Nat} {o:Array Value} {f:Nat×Nat},w.heap[k]?=some (.cells o t f)→(w'.setCell ⟨g,2,none⟩ v).heap[k]?=w.heap[k]?:=fun h1 h2 _ _ _ hk=>by
  have e:=st h2 hk
  exact (ne h1 (e.trans hk)).trans e
 refine ⟨(cr hb).trans (by simp),fzr hb,⟨B.t1,B.t2,B.t3,B.bg,by rw [hss hb];simp,B.mem.to fun k o f hk=>two B.t1.symm (by decide) hk,B.bh,B.row.to fun k o f hk=>two B.t3.symm (by decide) hk,owns_to ho fun k o f hk=>ne B.t2.symm hk⟩,?_⟩
 exact Fe.setCell (Fe.grown B.out q B.base_le) hb B.bg _ _
end Go.Proofs.YtchllaeembmioaaGreatDoor.Mc
namespace Go.Proofs.YtchllaeembmioaaGreatDoor.Mi
open Go.ChangeShapes Go.WideShapes Go.ChangeAt Go.RowKit Mm Hh Hc

variable {b : Bool} {α : Type} {i : Mv} {x : Int}
structure Cs (w:World) (ao:Option Addr) (n:Nat) (code:List Mv):Prop where
 len:code.length=n
 wn:∀i∈code,W i.n
 wo:∀i∈code, -9223372036854775808≤i.op∧i.op≤9223372036854775807
 spot:0<n→∃b o,ao=some ⟨b,o,none⟩∧b<w.heap.size∧∀j i,code[j]?=some i→w.cell? ⟨b,o+j*5,none⟩=some (.int .i64 i.op)∧w.cell? ⟨b,o+j*5+1,none⟩=some (.int .i64 i.d)∧w.cell? ⟨b,o+j*5+2,none⟩=some (.int .i64 i.a)∧w.cell? ⟨b,o+j*5+3,none⟩=some (.int .i64 i.b)∧w.cell? ⟨b,o+j*5+4,none⟩=some (.int .u32 i.n)
theorem Cs.of {w w':World}{ao:Option Addr}{n:Nat}{code:List Mv}(h:Cs w ao n code)(g:Gr w w'):Cs w' ao n code:=
 ⟨h.len,h.wn,h.wo,fun hn=>by
  obtain ⟨b,o,e,hb,hc⟩:=h.spot hn
  refine ⟨b,o,e,Nat.lt_of_lt_of_le hb g.size,fun j i hj=>?_⟩
  obtain ⟨h0,h1,h2,h3,h4⟩:=hc j i hj
  exact ⟨(g.cell _ (by exact hb)).trans h0,(g.cell _ (by exact hb)).trans h1,(g.cell _ (by exact hb)).trans h2,(g.cell _ (by exact hb)).trans h3,(g.cell _ (by exact hb)).trans h4⟩⟩
theorem retB {a:Bool}(h:a=b):Ending.returned (.bool a)=.returned (.bool b):=by rw [h]
theorem all_take1 (f:α→Bool)(l:List α)(k:Nat)(x:α)(h:l[k]?=some x):(l.take (k+1)).all f=((l.take k).all f && f x):=by
 rw [List.take_add_one,h]
 simp
theorem all_no {f:α→Bool}{l:List α}{k:Nat}{x:α}(h:l[k]?=some x)(hx:f x=false):l.all f=false:=by
 rw [List.all_eq_false]
 exact ⟨x,List.mem_of_getElem? h,by simp [hx]⟩
theorem mic_no1 (h:named i.op<0):micOk i=false:=by unfold micOk;rw [decide_eq_false (by omega)];rfl
end Go.Proofs.YtchllaeembmioaaGreatDoor.Mi
namespace Go.Proofs.YtchllaeembmioaaGreatDoor.Ts
open Go.ChangeShapes Go.WideShapes Go.ChangeAt Go.RowKit Mm Hc Mi Bk
open Hh

theorem shape_own {w:World}{base e sz n:Nat}{v:Value}{xs:List Value}(h:w.ownsRow base e sz v n xs):∃a c,v=.slice a n c:=by
 rcases h.2 with ⟨rfl,rfl⟩|⟨g,cap,_,rfl,_⟩
 ·exact ⟨none,0,rfl⟩
 ·exact ⟨_,cap,rfl⟩
theorem at_own {w:World}{base e sz n:Nat}{v:Value}{xs:List Value}(h:w.ownsRow base e sz v n xs)(hn:0<n):∃g c,v=.slice (some ⟨g,0,none⟩) n c∧g<w.heap.size∧∀j u,xs[j]?=some u→w.cell? ⟨g,j,none⟩=some u:=by
 obtain ⟨g,c,rfl⟩:=own_form h hn
 refine ⟨g,c,rfl,(h.lt g rfl).2,fun j u hu=>?_⟩
 have:=h.cells (g:=g) rfl j u hu
 rwa [add_at,Nat.zero_add] at this
def Sr (w:World) (vx:Value) (m sz:Nat) (news:List Value):Prop:=
 (vx=.slice none 0 0∧m=0∧news=[])∨∃ad c,vx=.slice (some ad) m c∧news.length=m*sz∧∀j u,news[j]?=some u→w.cell? (ad.add j)=some u
theorem Sr.gr {w w':World}{vx:Value}{m sz:Nat}{news:List Value}(h:Sr w vx m sz news)(G:Gr w w'):Sr w' vx m sz news:=by
 rcases h with h|⟨ad,c,e,hl,hc⟩
 ·exact .inl h
 ·exact .inr ⟨ad,c,e,hl,fun j u hj=>(G.cell _ (World.block_lt_of_cell? w _ (hc j u hj))).trans (hc j u hj)⟩
theorem Sr.new (w:World)(cs:Array Value)(t n c:Nat)(h:cs.size=n*5):Sr (w.alloc (.cells cs t)) (.slice (some ⟨w.heap.size,0,none⟩) n c) n 5 cs.toList:=
 .inr ⟨_,_,rfl,by simpa using h,fun j u hj=>by rw [add_at,Nat.zero_add,cr (heap_alloc_new w _)];simpa using hj⟩
section
variable {P : Program} {w : World} {base e size bytes n m : Nat} {i : TypeInfo} {z : Value} {t : TypeId}
theorem wpList_append_sr {ops:Array Oper}{rest:List Oper}{o:Oper}{a:Act}{Q:Exit→Act→World→Prop}
  (hg:o.guard=none)(s x:Operand)(hop:o.op=Op.call { callee:=Callee.builtin Builtin.append,args:=#[s,x],argTypes:=#[t,t] })
  (h1:P.underlying t=some (.slice e))(h2:P.info? e=some i)(h3:i.zero=some z)(h4:i.size=size)(h5:i.bytes=bytes)(h6:z.cells.size=size)(h7:0<size)
  {v vx:Value}{olds news:List Value}(hs:a.eval s=v)(hx:a.eval x=vx)(hown:w.ownsRow base e size v n olds)(hsrc:Sr w vx m size news)(h1c:∀u∈news,u.oneCell'=true)(b1:n+m≤maxLen)(b2:(n+m)*bytes≤140737488355328)(hbase:base≤w.heap.size)
  (hK:∀v' w',w'.ownsRow base e size v' (n+m) (olds++news)→w.grownBy w' v.ownBlock→wpList P ops Q rest (a.put o.dst v') w'):wpList P ops Q (o::rest) a w:=by
 refine wpList_plain hg fun K hk=>?_
 have hr:∃v' w',(Builtin.append_ #[t,t] o.type #[v,vx]).run P w=.ok v' w'∧w'.ownsRow base e size v' (n+m) (olds++news)∧w.grownBy w' v.ownBlock:=by
  rcases hsrc with ⟨rfl,rfl,rfl⟩|⟨ad,c,rfl,hl,hc⟩
  ·exact ⟨v,w,run_append_owned_none w base t o.type e i size h1 h2 v n olds hown,by simpa using hown,⟨rfl,rfl,rfl,Nat.le_refl _,fun _ _ _=>rfl⟩⟩
  ·obtain ⟨v',w',hrun,r1,r2,_⟩:=run_append_own (P:=P) w base t o.type e i z size bytes h1 h2 h3 h4 h5 h6 h7 v n olds hown ad m c news hl hc h1c b1 b2 hbase
   exact ⟨v',w',hrun,r1,r2⟩
 obtain ⟨v',w',hrun,r1,r2⟩:=hr
 unfold Oper.wp
 simp [execOp,hop,resolve,invoke,builtin,hs,hx,hrun,Result.andThen]
 exact hk _ _ (hK v' w' r1 r2)
end
def mvC1 (i:Mv):List Value:=[.int .i64 i.op,.int .i64 i.d,.int .i64 i.a,.int .i64 i.b,.int .u32 i.n]
def mvC (code:List Mv):List Value:=code.flatMap mvC1
theorem mvC_app (a b:List Mv):mvC (a++b)=mvC a++mvC b:=by simp [mvC]
theorem mvC_get:∀(code:List Mv) (i j:Nat) (x:Mv),code[i]?=some x→j<5→(mvC code)[i*5+j]?=(mvC1 x)[j]?
 | [],i,j,x,h,_=>by simp at h
 | p::r,0,j,x,h,hj=>by
  simp at h;subst h
  show (mvC1 p++mvC r)[0*5+j]?=_
  rw [Nat.zero_mul,Nat.zero_add,List.getElem?_append_left (by simpa [mvC1] using hj)]
 | p::r,i+1,j,x,h,hj=>by
  have ih:=mvC_get r i j x (by simpa using h) hj
  show (mvC1 p++mvC r)[(i+1)*5+j]?=_
  rw [List.getElem?_append_right (by simp [mvC1];omega)]
  rw [show (i+1)*5+j-(mvC1 p).length=i*5+j by simp [mvC1];omega]
  exact ih
theorem mvC_one (code:List Mv):∀u∈mvC code,u.oneCell'=true:=by
 intro u hu
 simp only [mvC,List.mem_flatMap] at hu
 obtain ⟨i,_,hu⟩:=hu
 simp only [mvC1,List.mem_cons,List.not_mem_nil,or_false] at hu
 rcases hu with rfl|rfl|rfl|rfl|rfl<;>rfl
theorem cs_own {w:World}{base:Nat}{v:Value}{code:List Mv}(O:w.ownsRow base 166 5 v code.length (mvC code))(hn:∀i∈code,Hh.W i.n)(ho:∀i∈code, -9223372036854775808≤i.op∧i.op≤9223372036854775807):∃ca cc,v=.slice ca code.length cc∧Cs w ca code.length code:=by
 obtain ⟨ca,cc,rfl⟩:=shape_own O
 refine ⟨ca,cc,rfl,rfl,hn,ho,fun h0=>?_⟩
 obtain ⟨g,c,e,hg,hc⟩:=at_own O h0
 injection e with e1 _ _
 refine ⟨g,0,e1,hg,fun j i hi=>?_⟩
 rw [Nat.zero_add]
 have q:=fun t (ht:t<5)=>mvC_get code j t i hi ht
 refine ⟨hc _ _ ?_,hc _ _ ?_,hc _ _ ?_,hc _ _ ?_,hc _ _ ?_⟩
 ·have:=q 0 (by omega);rwa [Nat.add_zero] at this
 ·exact q 1 (by omega)
 ·exact q 2 (by omega)
 ·exact q 3 (by omega)
 ·exact q 4 (by omega)
def Ct (w:World) (ca:Option Addr) (cn:Nat) (code:List Mv):Prop:=∀W:World,(∀(k:Nat) (o:Array Value) (f:Nat×Nat),w.heap[k]?=some (.cells o 166 f)→W.heap[k]?=w.heap[k]?)→Cs W ca cn code
theorem Ct.cs {w:World}{ca:Option Addr}{cn:Nat}{code:List Mv}(h:Ct w ca cn code):Cs w ca cn code:=h w fun _ _ _ _=>rfl
theorem Ct.to {w w':World}{ca:Option Addr}{cn:Nat}{code:List Mv}(h:Ct w ca cn code)(q:∀(k:Nat) (o:Array Value) (f:Nat×Nat),w.heap[k]?=some (.cells o 166 f)→w'.heap[k]?=w.heap[k]?):Ct w' ca cn code:=
 fun W hW=>h W fun k o f hk=>(hW k o f ((q k o f hk).trans hk)).trans (q k o f hk)
theorem Ct.of {w w':World}{ca:Option Addr}{cn:Nat}{code:List Mv}(h:Ct w ca cn code)(G:Gr w w'):Ct w' ca cn code:=h.to fun k o f hk=>G.block k (gs hk).1
theorem ct_own {w:World}{base:Nat}{v:Value}{code:List Mv}(O:w.ownsRow base 166 5 v code.length (mvC code))(hn:∀i∈code,Hh.W i.n)(ho:∀i∈code, -9223372036854775808≤i.op∧i.op≤9223372036854775807):∃ca cc,v=.slice ca code.length cc∧Ct w ca code.length code:=by
 obtain ⟨ca,cc,rfl,_⟩:=cs_own O hn ho
 refine ⟨ca,cc,rfl,fun W q=>?_⟩
 obtain ⟨ca',cc',e,C⟩:=cs_own (owns_to O q) hn ho
 injection e with e1 _ _
 subst e1
 exact C
end Go.Proofs.YtchllaeembmioaaGreatDoor.Ts
namespace Go.Proofs.YtchllaeembmioaaGreatDoor.Kc
open Go.ChangeShapes Go.WideShapes Go.ChangeAt Go.RowKit Mm Ts Hc

variable {w w' : World} {ao : Option Addr} {n g b t : Nat} {bs : List Bv} {x y : Value}
theorem four_set {W:World}{z0 z1 z2 z3:Value}(h:W.heap[g]?=some (.cells #[z0,z1,z2,z3] t (0,0)))(a b c d:Value):((((W.setCell ⟨g,0,none⟩ a).setCell ⟨g,1,none⟩ b).setCell ⟨g,2,none⟩ c).setCell ⟨g,3,none⟩ d).heap[g]?=some (.cells #[a,b,c,d] t (0,0)):=by
 have h0:=heap_setCell_same W g 0 _ _ a h
 have h1:=heap_setCell_same _ g 1 _ _ b h0
 have h2:=heap_setCell_same _ g 2 _ _ c h1
 exact heap_setCell_same _ g 3 _ _ d h2
theorem atWd {p:World→Prop}{x:World}(F:World→Prop)(h:F x)(k:∀y,F y→p y):p x:=k x h
end Go.Proofs.YtchllaeembmioaaGreatDoor.Kc
namespace Go.Proofs.YtchllaeembmioaaGreatDoor.Kc
open Go.ChangeShapes Go.WideShapes Go.ChangeAt Go.RowKit Mm Ts Hc

variable {w w' : World} {ao : Option Addr} {n m base e bytes : Nat} {vx z : Value} {news : List Value} {P : Program} {i : TypeInfo} {t : TypeId}
theorem infoI:(Tryz.prog.info? 77).map (fun i=>(i.zero,i.size,i.bytes))=some (some (.agg #[.int .i64 0,.int .i64 0,.int .i64 0,.int .i64 0,.int .i32 0]),5,40):=by kernel_rfl
theorem iBk:(Tryz.prog.info? 45).map (·.size)=some 2:=by kernel_rfl
def Sc (w:World) (vx:Value) (m:Nat) (news:List Value):Prop:=
 (∃x c,vx=.slice x 0 c∧m=0∧news=[])∨∃ad c,vx=.slice (some ad) m c∧news.length=m*5∧∀j u,news[j]?=some u→w.cell? (ad.add j)=some u
theorem is_sc {c:Nat}{is:List Iv}(h:Is w ao n is):Sc w (.slice ao n c) n (isC is):=by
 have hl:=h.len
 by_cases hn:0<n
 ·obtain ⟨b,o,rfl,hb,hc⟩:=h.spot hn
  refine .inr ⟨_,c,rfl,by rw [isC_len,hl],fun j u hj=>?_⟩
  have hlt:=(List.getElem?_eq_some_iff.1 hj).1
  rw [isC_len] at hlt
  obtain ⟨i,hi⟩:∃i,is[j/5]?=some i:=⟨_,List.getElem?_eq_getElem (by omega)⟩
  have q:=isC_get is (j/5) (j%5) i hi (by omega)
  rw [show j/5*5+j%5=j by omega,hj] at q
  obtain ⟨h0,h1,h2,h3,h4⟩:=hc _ i hi
  rw [add_at]
  have hm:j%5<5:=by omega
  generalize hr:j%5=r at *
  have ej:j=j/5*5+r:=by omega
  match r,hm,q,ej with
  | 0,_,q,ej=>rw [ej,show o+(j/5*5+0)=o+j/5*5 by omega,h0];exact q.symm
  | 1,_,q,ej=>rw [ej,←Nat.add_assoc,h1];exact q.symm
  | 2,_,q,ej=>rw [ej,←Nat.add_assoc,h2];exact q.symm
  | 3,_,q,ej=>rw [ej,←Nat.add_assoc,h3];exact q.symm
  | 4,_,q,ej=>rw [ej,←Nat.add_assoc,h4];exact q.symm
  | r+5,hm,_,_=>exact absurd hm (by omega)
 ·have e:n=0:=by omega
  subst e
  have e2:=List.eq_nil_of_length_eq_zero hl
  subst e2
  exact .inl ⟨ao,c,rfl,rfl,rfl⟩
theorem Sc.gr (h:Sc w vx m news)(G:Gr w w'):Sc w' vx m news:=by
 rcases h with h|⟨ad,c,e,hl,hc⟩
 ·exact .inl h
 ·exact .inr ⟨ad,c,e,hl,fun j u hj=>(G.cell _ (World.block_lt_of_cell? w _ (hc j u hj))).trans (hc j u hj)⟩
theorem run_append_sc (ty : TypeId)
    (h1 : P.underlying t = some (.slice e)) (h2 : P.info? e = some i) (h3 : i.zero = some z) (h4 : i.size = 5) (h5 : i.bytes = bytes) (h6 : z.cells.size = 5)
 (hsrc : Sc w vx m news) (h1c : ∀ u ∈ news, u.oneCell' = true) (b1 : m ≤ maxLen) (b2 : m * bytes ≤ 140737488355328) (hbase : base ≤ w.heap.size) :
    ∃ v' w', (Builtin.append_ #[t, t] ty #[.slice none 0 0, vx]).run P w = .ok v' w' ∧ w'.ownsRow base e 5 v' m news ∧ w.grownBy w' none := by
  rcases hsrc with ⟨x, c, rfl, rfl, rfl⟩ | ⟨ad, c, rfl, hl, hc⟩
  · refine ⟨.slice none 0 0, w, ?_, World.ownsRow_nil w base e 5, ⟨rfl, rfl, rfl, Nat.le_refl _, fun _ _ _ => rfl⟩⟩
    cases x <;> simp [Builtin.append_, run_underlying h1, sizeOf, typeInfo, h2, Builtin.lenOf, Builtin.firstCells, loadCells, loadCellsFrom]
  · obtain ⟨v', w', hrun, r1, r2, _⟩ := run_append_own (P := P) w base t ty e i z 5 bytes h1 h2 h3 h4 h5 h6 (by decide) (.slice none 0 0) 0 [] (World.ownsRow_nil w base e 5) ad m c news hl hc h1c (by omega) (by rw [Nat.zero_add]; exact b2) hbase
    exact ⟨v', w', hrun, by simpa using r1, r2⟩
theorem wpList_append_sc {ops : Array Oper} {rest : List Oper} {o : Oper} {a : Act} {Q : Exit → Act → World → Prop}
    (hg : o.guard = none) (s x : Operand) (hop : o.op = Op.call { callee := Callee.builtin Builtin.append, args := #[s, x], argTypes := #[t, t] })
    (h1 : P.underlying t = some (.slice e)) (h2 : P.info? e = some i) (h3 : i.zero = some z) (h4 : i.size = 5) (h5 : i.bytes = bytes) (h6 : z.cells.size = 5)
 (hs : a.eval s = .slice none 0 0) (hx : a.eval x = vx) (hsrc : Sc w vx m news) (h1c : ∀ u ∈ news, u.oneCell' = true) (b1 : m ≤ maxLen) (b2 : m * bytes ≤ 140737488355328) (hbase : base ≤ w.heap.size)
    (hK : ∀ v' w', w'.ownsRow base e 5 v' m news → w.grownBy w' none → wpList P ops Q rest (a.put o.dst v') w') : wpList P ops Q (o :: rest) a w := by
  refine wpList_plain hg fun K hk => ?_
  obtain ⟨v', w', hrun, r1, r2⟩ := run_append_sc (P := P) o.type h1 h2 h3 h4 h5 h6 hsrc h1c b1 b2 hbase
  unfold Oper.wp
  simp [execOp, hop, resolve, invoke, builtin, hs, hx, hrun, Result.andThen]
  exact hk _ _ (hK v' w' r1 r2)
theorem gr_none (h:w.grownBy w' none):Gr w w':=Gr.grown (Gr.refl w) h (fun k e=>by cases e)
theorem copyB_any {b:Bv}{va:Option Addr}{vn vc:Nat}(hb:Bc w b (.int .u32 b.pc) (.slice va vn vc)):
  Calls Tryz.prog 93 #[.agg #[.int .u32 b.pc,.slice va vn vc]] w fun e w'=>∃v,e=.returned (.agg #[.int .u32 b.pc,v])∧Io w' w.heap.size v b.is∧Gr w w':=by
 obtain ⟨_,_,sa,sn,sc,e2,I,hsz⟩:=hb
 injection e2 with q1 q2 q3
 subst q1
 subst q2
 subst q3
 have hbl:b.is.length*40≤140737488351232:=by rw [I.len];exact hsz
 have HS:Hid (Sc w (.slice va vn vc) vn (isC b.is)):=is_sc I
 have HL:Hid _:=I.len
 obtain ⟨i0,hi,hz0,hz1,hz2⟩:=info_parts infoI
 clear I hbl
 generalize b.pc=x at *
 go_enter Tryz.func93,Tryz.ntmps93
 go_wp2_with (at_builtin;refine wpList_append_sc (base:=w.heap.size) rfl _ _ rfl Tryz.underlying43 hi hz0 hz1 hz2 rfl rfl rfl (HS.out.gr (((Gr.refl w).alloc _).alloc _)) (isC_one _) (by unfold maxLen;omega) (by omega) (by simp;omega) ?_)
 intro v' w' hown hgrow
 have G2:Gr ((w.alloc (.cells #[.int .u32 x,.slice va vn vc] 45)).alloc (.cells #[.int .u32 0,.slice none 0 0] 45)) w':=gr_none hgrow
 have HIo:Hid (Io w' w.heap.size v' b.is):=by unfold Hid Io;rw [HL.out];exact hown
 have HG:Hid (Gr w w'):=(((Gr.refl w).alloc _).alloc _).trans G2
 obtain ⟨a',c',rfl⟩:=HIo.out.shape
 have B0:w'.heap[w.heap.size]?=some (.cells #[.int .u32 x,.slice va vn vc] 45 (0,0)):=up_h (((Gr.refl _).alloc _).trans G2) (heap_alloc_new w _)
 have B1:w'.heap[w.heap.size+1]?=some (.cells #[.int .u32 0,.slice none 0 0] 45 (0,0)):=up_h G2 (new2 w _ _)
 have HB0:Hid _:=B0
 have HB1:Hid _:=B1
 have c0:=cr0 B0
 have c1:=cr1 B0
 have f1:w'.frozen? ⟨w.heap.size,1,none⟩=false:=fzr B0
 have d0:=cr0 B1
 have d1:=cr1 B1
 have g1:∀j,w'.frozen? ⟨w.heap.size+1,j,none⟩=false:=fun j=>fzr B1
 clear hown hgrow G2 B0 B1
 generalize b.is.length=q at *
 go_wp2_with fail
 have e1:(w'.setCell ⟨w.heap.size,1,none⟩ (.slice a' q c')).heap[w.heap.size+1]?=some (.cells #[.int .u32 0,.slice none 0 0] 45 (0,0)):=(hso (by show w.heap.size+1≠w.heap.size;omega)).trans HB1.out
 have e2:=heap_setCell_same _ _ 0 _ _ (.int .u32 x) e1
 have e3:=heap_setCell_same _ _ 1 _ _ (.slice a' q c') e2
 refine bodyPost_ret (v:=.agg #[.int .u32 x,.slice a' q c']) (results_cell_row Tryz.results93 _ _ _ _ _ (0,0) _ rfl e3 Tryz.underlying45 rfl iBk) rfl ⟨_,rfl,?_,?_⟩
 ·refine HIo.out.to fun k o f hk=>?_
  have n0:k≠w.heap.size:=ne_of_types hk HB0.out (by decide)
  have n1:k≠w.heap.size+1:=ne_of_types hk HB1.out (by decide)
  rw [hso (by exact n1),hso (by exact n1),hso (by exact n0)]
 ·exact ((HG.out.setCell (by show w.heap.size≤w.heap.size;omega) _).setCell (by show w.heap.size≤w.heap.size+1;omega) _).setCell (by show w.heap.size≤w.heap.size+1;omega) _
theorem four_h (W:World)(g:Nat)(a b c d:Value){k:Nat}(hk:k≠g):((((W.setCell ⟨g,0,none⟩ a).setCell ⟨g,1,none⟩ b).setCell ⟨g,2,none⟩ c).setCell ⟨g,3,none⟩ d).heap[k]?=W.heap[k]?:=by
 rw [hso (by exact hk),hso (by exact hk),hso (by exact hk),hso (by exact hk)]
theorem owns_low {b0 sz:Nat}{v:Value}{xs:List Value}(h:w.ownsRow base e sz v n xs)(hb:b0≤base):w.ownsRow b0 e sz v n xs:=by
 obtain ⟨h1,h2⟩:=h
 refine ⟨h1,?_⟩
 rcases h2 with h2|⟨g,cp,cur,e1,e2,e3⟩
 ·exact .inl h2
 ·exact .inr ⟨g,cp,cur,e1,by omega,e3⟩
theorem three_of {A B C:Array Value}{t u s:Nat}(g:Gr (((w.alloc (.cells A t)).alloc (.cells B u)).alloc (.cells C s)) w'):w'.heap[w.heap.size]?=some (.cells A t (0,0))∧w'.heap[w.heap.size+1]?=some (.cells B u (0,0))∧w'.heap[w.heap.size+1+1]?=some (.cells C s (0,0)):=by
 refine ⟨up_h ((((Gr.refl _).alloc _).alloc _).trans g) (heap_alloc_new w _),up_h (((Gr.refl _).alloc _).trans g) (new2 w _ _),up_h g ?_⟩
 have:=heap_alloc_new ((w.alloc (.cells A t)).alloc (.cells B u)) (.cells C s)
 simpa using this
theorem copyC_any {w:World}{ao:Option Addr}{n:Nat}(cap:Nat){bs:List Bv}(B:Bs w ao n bs)(hn:n*32≤140737488351232)(room pu sl:Int):
  Calls Tryz.prog 78 #[.agg #[.int .i64 room,.slice ao n cap,.int .i64 pu,.int .i64 sl]] w fun e w'=>∃g cp xs,e=.returned (.agg #[.int .i64 room,.slice (some ⟨g,0,none⟩) n cp,.int .i64 pu,.int .i64 sl])∧w'.ownsRow w.heap.size 45 2 (.slice (some ⟨g,0,none⟩) n cp) n xs∧Bx w' w.heap.size bs xs∧Gr w w':=by
 have HL:Hid (bs.length=n):=B.len
 have HB:Hid (Bs w ao n bs):=B
 have CP:Hid (∀(W:World) (b:Bv) (va:Option Addr) (vn vc:Nat),Gr w W→Bc w b (.int .u32 b.pc) (.slice va vn vc)→Calls Tryz.prog 93 #[.agg #[.int .u32 b.pc,.slice va vn vc]] W fun e w'=>∃v,e=.returned (.agg #[.int .u32 b.pc,v])∧Io w' W.heap.size v b.is∧Gr W w'):=fun W b va vn vc G h=>copyB_any (h.of G)
 obtain ⟨i0,hi,hz0,hz1,hz2⟩:=info_parts infoB
 clear B
 go_enter Tryz.func78,Tryz.ntmps78
 go_wp2_with (at_make;refine wpList_make_own _ rfl _ _ 33 rfl (w.heap.size+1+1) 45 i0 _ 2 Tryz.underlying33 hi hz0 hz1 _ _ _ (n+1) rfl rfl (by go_num) (by rw [hz2];omega) (by unfold maxLen;omega) (by simp) ?_)
 intro w0 hown0 hgrow0
 have G0:Gr ((w.alloc (.cells #[.int .i64 room,.slice ao n cap,.int .i64 pu,.int .i64 sl] 35)).alloc (.cells #[.int .i64 0,.slice none 0 0,.int .i64 0,.int .i64 0] 35)) w0:=gr_none hgrow0
 have HO0:Hid (∃g,w0.ownsRow (w.heap.size+1+1) 45 2 (.slice (some ⟨g,0,none⟩) 0 (n+1)) 0 []∧g=w.heap.size+1+1):=⟨_,hown0,by simp⟩
 have H00:Hid (w0.heap[w.heap.size]?=some (.cells #[.int .i64 room,.slice ao n cap,.int .i64 pu,.int .i64 sl] 35 (0,0))):=up_h (((Gr.refl _).alloc _).trans G0) (heap_alloc_new w _)
 have H01:Hid (w0.heap[w.heap.size+1]?=some (.cells #[.int .i64 0,.slice none 0 0,.int .i64 0,.int .i64 0] 35 (0,0))):=up_h G0 (new2 w _ _)
 have HG0:Hid (Gr w w0):=(((Gr.refl w).alloc _).alloc _).trans G0
 have z1:w0.cell? ⟨w.heap.size,1,none⟩=some (.slice ao n cap):=cell_of_row _ _ _ _ _ _ H00.out
 clear hown0 hgrow0 G0
 go_wp2_with fail
 go_loopw [3,14] (fun V i wr=>∃j:Nat,j≤n∧i=.int .i64 j∧∃g cp xs,V=.slice (some ⟨g,0,none⟩) j cp∧wr.heap[w.heap.size]?=some (.cells #[.int .i64 room,.slice ao n cap,.int .i64 pu,.int .i64 sl] 35 (0,0))∧wr.heap[w.heap.size+1]?=some (.cells #[.int .i64 0,.slice none 0 0,.int .i64 0,.int .i64 0] 35 (0,0))∧wr.ownsRow (w.heap.size+1+1) 45 2 (.slice (some ⟨g,0,none⟩) j cp) j xs∧Bx wr w.heap.size (bs.take j) xs∧Gr w wr) (fun _ i _=>n-(intOf i).toNat)
 case atStart=>
  obtain ⟨g,O,rfl⟩:=HO0.out
  exact ⟨0,Nat.zero_le _,rfl,_,_,[],rfl,H00.out,H01.out,O,Bx.nil _ _,HG0.out⟩
 case round=>
  obtain ⟨j,hj,rfl,g,cp,xs,rfl,h0,h1,hO,hX,G⟩:=hrel
  have HG:Hid (Gr w wr):=G
  have HO:Hid (wr.ownsRow (w.heap.size+1+1) 45 2 (.slice (some ⟨g,0,none⟩) j cp) j xs):=hO
  have HX:Hid (Bx wr w.heap.size (bs.take j) xs):=hX
  have H0:Hid (wr.heap[w.heap.size]?=some (.cells #[.int .i64 room,.slice ao n cap,.int .i64 pu,.int .i64 sl] 35 (0,0))):=h0
  have H1:Hid (wr.heap[w.heap.size+1]?=some (.cells #[.int .i64 0,.slice none 0 0,.int .i64 0,.int .i64 0] 35 (0,0))):=h1
  clear h0 h1 hO hX G HO0 H00 H01 HG0 z1
  by_cases hlt:j<n
  ·obtain ⟨b,hb⟩:∃b,bs[j]?=some b:=⟨_,List.getElem?_eq_getElem (by rw [HL.out];exact hlt)⟩
   obtain ⟨k,o,rfl,hk,hcell⟩:=HB.out.spot (by omega)
   obtain ⟨u,v,p0,p1,hbc⟩:=hcell j b hb
   obtain ⟨o1,o2,va,vn,vc,rfl⟩:=hbc.ones
   have d0:wr.cell? ⟨k,o+j*2,none⟩=some u:=(HG.out.cell _ (by exact hk)).trans p0
   have d1:wr.cell? ⟨k,o+j*2+1,none⟩=some (.slice va vn vc):=(HG.out.cell _ (by exact hk)).trans p1
   have hu:u=.int .u32 b.pc:=hbc.1
   subst hu
   have CP2:Hid (∀W:World,Gr w W→Calls Tryz.prog 93 #[.agg #[.int .u32 b.pc,.slice va vn vc]] W fun e w'=>∃v,e=.returned (.agg #[.int .u32 b.pc,v])∧Io w' W.heap.size v b.is∧Gr W w'):=fun W G=>CP.out W b va vn vc G hbc
   have HT:Hid (∀(W:World) (v:Value),Bx W w.heap.size (bs.take j) xs→Io W w.heap.size v b.is→Bx W w.heap.size (bs.take (j+1)) (xs++[.int .u32 b.pc,v])):=fun W v h1 h2=>by rw [List.take_add_one,hb];exact h1.snoc h2
   clear hcell p0 p1 hbc CP hb
   generalize b.pc=bp at *
   go_wp2_with fail
   refine (CP2.out _ (HG.out.alloc _)).mono ?_
   rintro e w2 ⟨v2,rfl,I2,G2⟩
   have HG2:Hid (Gr wr w2):=((Gr.refl wr).alloc _).trans G2
   have HI2:Hid (Io w2 w.heap.size v2 b.is):=I2.low (by have:=HG.out.size;simp;omega)
   obtain ⟨ia,ic,rfl⟩:=I2.shape
   clear CP2 G2 I2
   generalize b.is.length=iq at *
   have HO2:Hid (w2.ownsRow (w.heap.size+1+1) 45 2 (.slice (some ⟨g,0,none⟩) j cp) j xs):=owns_gr HO.out HG2.out
   have HC2:Hid (w.heap.size+1+1≤w2.heap.size):=by
    have q1:=HG2.out.size
    have q3:=(Array.getElem?_eq_some_iff.1 H1.out).1
    unfold Hid
    omega
   go_wp2_with (at_builtin;have q0:=HC2.out;have q1:=owns_gr HO2.out ((Gr.refl w2).alloc (.cells #[.int .u32 bp,.slice ia iq ic] 45));refine wpList_append_own _ rfl (.tmp 18) (.tmp 21) 33 rfl (w.heap.size+1+1) 45 i0 _ 2 32 Tryz.underlying33 hi hz0 hz1 hz2 rfl (by decide) (.slice (some ⟨g,0,none⟩) j cp) j xs rfl q1 ⟨w2.heap.size,0,none⟩ 1 1 [.int .u32 bp,.slice ia iq ic] rfl rfl ?xc (two_ones rfl rfl) ?xd ?xe ?xf ?xg;(case xc=>exact two_cells (by simp) (by simp));(case xd=>unfold maxLen;omega);(case xe=>omega);(case xf=>simp;omega))
   rintro v' w' hown hgrow -
   obtain ⟨g',cp',rfl⟩:=own_form hown (by omega)
   have HOn:Hid (w'.ownsRow (w.heap.size+1+1) 45 2 (.slice (some ⟨g',0,none⟩) (j+1) cp') (j+1) (xs++[.int .u32 bp,.slice ia iq ic])):=hown
   have HKp:Hid (∀(q:Nat) (c:Array Value) (r:Nat) (z:Nat×Nat),w2.heap[q]?=some (.cells c r z)→r≠45→w'.heap[q]?=some (.cells c r z)):=fun q c r z hq hr=>row_keep (owns_gr HO2.out ((Gr.refl w2).alloc _)) hgrow (up_h ((Gr.refl w2).alloc _) hq) hr
   have HGn:Hid (Gr w w'):=Gr.grown ((HG.out.trans HG2.out).alloc _) hgrow (fun q e=>by have:=(HO2.out.lt q e).1;omega)
   clear hown hgrow d0 d1 HB
   go_wp2_with fail
   go_roundw
   case rel=>
    refine ⟨j+1,by omega,by go_num,g',cp',xs++[.int .u32 bp,.slice ia iq ic],rfl,HKp.out _ _ _ _ (up_h HG2.out H0.out) (by decide),HKp.out _ _ _ _ (up_h HG2.out H1.out) (by decide),HOn.out,?_,HGn.out⟩
    exact HT.out _ _ ((HX.out.of HG2.out).to fun q c f hq=>by rw [HKp.out _ _ _ _ hq (by decide)];exact hq.symm) (HI2.out.to fun q c f hq=>by rw [HKp.out _ _ _ _ hq (by decide)];exact hq.symm)
   case measure=>simp [intOf];omega
  ·have ej:j=n:=by omega
   have HE:Hid (bs.take j=bs):=by unfold Hid;rw [ej,←HL.out,List.take_length]
   have HXe:Hid (Bx wr w.heap.size bs xs):=by have:=HX.out;rwa [HE.out] at this
   have HOe:Hid (wr.ownsRow (w.heap.size+1+1) 45 2 (.slice (some ⟨g,0,none⟩) n cp) n xs):=by have:=HO.out;rwa [ej] at this
   subst ej
   have y0:wr.cell? ⟨w.heap.size,0,none⟩=some (.int .i64 room):=cell_of_row _ _ _ _ _ _ H0.out
   have y1:wr.cell? ⟨w.heap.size,1,none⟩=some (.slice ao j cap):=cell_of_row _ _ _ _ _ _ H0.out
   have y2:wr.cell? ⟨w.heap.size,2,none⟩=some (.int .i64 pu):=cell_of_row _ _ _ _ _ _ H0.out
   have y3:wr.cell? ⟨w.heap.size,3,none⟩=some (.int .i64 sl):=cell_of_row _ _ _ _ _ _ H0.out
   have yf:wr.frozen? ⟨w.heap.size,1,none⟩=false:=frozen_of_row _ _ _ _ _ H0.out
   have x0:wr.cell? ⟨w.heap.size+1,0,none⟩=some (.int .i64 0):=cell_of_row _ _ _ _ _ _ H1.out
   have x1:wr.cell? ⟨w.heap.size+1,1,none⟩=some (.slice none 0 0):=cell_of_row _ _ _ _ _ _ H1.out
   have x2:wr.cell? ⟨w.heap.size+1,2,none⟩=some (.int .i64 0):=cell_of_row _ _ _ _ _ _ H1.out
   have x3:wr.cell? ⟨w.heap.size+1,3,none⟩=some (.int .i64 0):=cell_of_row _ _ _ _ _ _ H1.out
   have xf:∀j,wr.frozen? ⟨w.heap.size+1,j,none⟩=false:=fun j=>frozen_of_row _ _ _ _ _ H1.out
   clear HB HE HO HX CP
   go_wp2_with fail
   have e1:(wr.setCell ⟨w.heap.size,1,none⟩ (.slice (some ⟨g,0,none⟩) j cp)).heap[w.heap.size+1]?=some (.cells #[.int .i64 0,.slice none 0 0,.int .i64 0,.int .i64 0] 35 (0,0)):=(heap_setCell_other _ _ _ _ (by show w.heap.size+1≠w.heap.size;omega)).trans H1.out
   have hk:∀(k:Nat) (c:Array Value) (r:Nat) (f:Nat×Nat),wr.heap[k]?=some (.cells c r f)→r≠35→(((((wr.setCell ⟨w.heap.size,1,none⟩ (.slice (some ⟨g,0,none⟩) j cp)).setCell ⟨w.heap.size+1,0,none⟩ (.int .i64 room)).setCell ⟨w.heap.size+1,1,none⟩ (.slice (some ⟨g,0,none⟩) j cp)).setCell ⟨w.heap.size+1,2,none⟩ (.int .i64 pu)).setCell ⟨w.heap.size+1,3,none⟩ (.int .i64 sl)).heap[k]?=wr.heap[k]?:=fun k c r f hq hr=>by
    rw [four_h _ _ _ _ _ _ (ne_of_types hq H1.out hr),heap_setCell_other _ _ _ _ (by exact ne_of_types hq H0.out hr)]
   refine bodyPost_ret (v:=.agg #[.int .i64 room,.slice (some ⟨g,0,none⟩) j cp,.int .i64 pu,.int .i64 sl]) (results_cell_row Tryz.results78 _ _ _ _ _ (0,0) _ rfl (four_set e1 _ _ _ _) Tryz.underlying35 rfl iCa) rfl ⟨g,cp,xs,rfl,?_,?_,?_⟩
   ·exact owns_to (owns_low HOe.out (by omega)) fun q c r hq=>hk q c _ r hq (by decide)
   ·exact HXe.out.to fun q c r hq=>hk q c _ r hq (by decide)
   ·have q1:w.heap.size≤w.heap.size+1:=by omega
    exact ((((HG.out.setCell (by show w.heap.size≤w.heap.size;omega) _).setCell (by exact q1) _).setCell (by exact q1) _).setCell (by exact q1) _).setCell (by exact q1) _
end Go.Proofs.YtchllaeembmioaaGreatDoor.Kc
