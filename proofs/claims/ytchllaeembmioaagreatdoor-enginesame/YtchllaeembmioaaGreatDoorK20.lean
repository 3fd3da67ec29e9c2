/-
  Ew: texts of ours that lie in one file.
-/
import Derived.Test.YtchllaeembmioaaGreatDoorK04
import Derived.Test.YtchllaeembmioaaGreatDoorK12
import Derived.Test.YtchllaeembmioaaGreatDoorK18
import Derived.Test.YtchllaeembmioaaGreatDoorK19
set_option linter.unusedVariables false
set_option linter.unusedSimpArgs false
set_option maxHeartbeats 8000000
set_option maxRecDepth 100000
namespace Go.Proofs.YtchllaeembmioaaGreatDoor.En
open Go.ChangeShapes Go.WideShapes Go.ChangeAt Go.RowKit Mm Hh Hc Mc

def rsE (room:Int) (a:Option Addr) (n cap:Nat) (pu sl:Int) (mb:Nat):List Value:=[.int .i64 room,.slice a n cap,.int .i64 pu,.int .i64 sl,.map (some mb)]
structure Ew (lo:Nat) (w:World) (base g:Nat) (room:Int) (M:Value) (gh hc:Nat) (O:Value) (a:Option Addr) (n cap mb mn:Nat) (D:DataW Value) (s:Sh) (L:List Kc.Bv) (pu sl:Int):Prop where
 bw:Bw 66 (rsE room a n cap pu sl mb) w base g M gh hc O s
 bt:Kc.Bt lo w a n L
 cap:n≤cap
 bm:base≤mb
 map:w.ownsMap Tryz.prog 42 Rh mb mn D
 code:∀b∈L,∃ca cn cc,(∀z,D.atKey (.int .u32 b.pc) z=.held (.slice ca cn cc))∧Ts.Ct w ca cn (Ts.codeV b.pc b.is 0)
def set4 (w:World) (g:Nat) (r:Int) (a':Option Addr) (n' cap':Nat) (pu' sl':Int):World:=(((w.setCell ⟨g,4,none⟩ (.int .i64 r)).setCell ⟨g,5,none⟩ (.slice a' n' cap')).setCell ⟨g,6,none⟩ (.int .i64 pu')).setCell ⟨g,7,none⟩ (.int .i64 sl')
def Ev (lo:Nat) (w:World) (base g:Nat) (room:Int) (s:Sh) (L:List Kc.Bv) (pu sl:Int) (mn:Nat):Prop:=∃M gh hc O a n cap mb D,Ew lo w base g room M gh hc O a n cap mb mn D s L pu sl
structure Fm (base:Nat) (w w':World):Prop where
 below:Below base w w'
 keep:∀(k:Nat) (q:Array Value) (t:Nat) (f:Nat×Nat),w.heap[k]?=some (.cells q t f)→t≠66→w'.heap[k]?=w.heap[k]?
theorem Fm.refl (base:Nat)(w:World):Fm base w w:=⟨Below.refl _ _,fun _ _ _ _ _ _=>rfl⟩
theorem Fm.trans {base:Nat}{a b c:World}(h:Fm base a b)(k:Fm base b c):Fm base a c:=⟨h.below.trans k.below,fun i q t f e t1=>(k.keep i q t f ((h.keep i q t f e t1).trans e) t1).trans (h.keep i q t f e t1)⟩
theorem Fm.ofGr {base:Nat}{w w':World}(G:Gr w w')(hb:base≤w.heap.size):Fm base w w':=⟨Below.mono G hb,fun i q t f e _=>G.block i (gs e).1⟩
theorem Fm.row {base:Nat}{w w':World}(h:Fm base w w'){k:Nat}{q:Array Value}{t:Nat}{f:Nat×Nat}(e:w.heap[k]?=some (.cells q t f))(t1:t≠66):w'.heap[k]?=some (.cells q t f):=(h.keep k q t f e t1).trans e
theorem Fm.set {base:Nat}{a w:World}{g:Nat}{Y:Array Value}{f:Nat×Nat}(h:Fm base a w)(hy:w.heap[g]?=some (.cells Y 66 f))(hg:base≤g)(i:Nat)(v:Value):Fm base a (w.setCell ⟨g,i,none⟩ v):=⟨Below.setCell h.below (by exact hg) _,fun k q t f' e t1=>by
 have e2:=h.row e t1
 rw [hso (by exact ne_of_types e2 hy t1)]
 exact h.keep k q t f' e t1⟩
theorem Fm.setRow {base k:Nat}{w w':World}(h:Fm base w w')(hb:base≤k)(hk:w.heap.size≤k)(cs:Array Value):Fm base w (w'.setRow k cs):=⟨below_setRow h.below hb cs,fun i q t f e t1=>by
 have:=(gs e).1
 rw [sro (by omega)]
 exact h.keep i q t f e t1⟩
section
variable {lo : Nat} {w w' : World} {base g gh hc : Nat} {room : Int} {M O : Value} {a : Option Addr} {n cap mb mn : Nat} {D : DataW Value} {s : Sh} {L : List Kc.Bv} {pu sl : Int}
theorem Bw.to {ty:Nat}{rs:List Value}(B:Bw ty rs w base g M gh hc O s)(q:∀(k:Nat) (o:Array Value) (t:Nat) (f:Nat×Nat),w.heap[k]?=some (.cells o t f)→w'.heap[k]?=w.heap[k]?):Bw ty rs w' base g M gh hc O s:=
 ⟨B.t1,B.t2,B.t3,B.bg,(q _ _ _ _ B.blk).trans B.blk,B.mem.to fun k o f e=>q k o _ f e,B.bh,B.row.to fun k o f e=>q k o _ f e,owns_to B.out fun k o f e=>q k o _ f e⟩
theorem owns_map_to (h:w.ownsMap Tryz.prog 42 Rh mb mn D)(e:w'.heap[mb]?=w.heap[mb]?):w'.ownsMap Tryz.prog 42 Rh mb mn D:=by
 obtain ⟨es,clock,hb,r⟩:=h
 exact ⟨es,clock,e.trans hb,r⟩
theorem Ew.of (E:Ew lo w base g room M gh hc O a n cap mb mn D s L pu sl)(G:Gr w w'):Ew lo w' base g room M gh hc O a n cap mb mn D s L pu sl:=
 ⟨E.bw.of G,E.bt.of G,E.cap,E.bm,owns_map_to E.map (G.block _ E.map.lt),fun b hb=>by
  obtain ⟨ca,cn,cc,h1,h2⟩:=E.code b hb
  exact ⟨ca,cn,cc,h1,h2.of G⟩⟩
theorem Ev.of (E:Ev lo w base g room s L pu sl mn)(G:Gr w w'):Ev lo w' base g room s L pu sl mn:=by
 obtain ⟨M,gh,hc,O,a,n,cap,mb,D,E⟩:=E
 exact ⟨M,gh,hc,O,a,n,cap,mb,D,E.of G⟩
theorem Ew.base_le (E:Ew lo w base g room M gh hc O a n cap mb mn D s L pu sl):base≤w.heap.size:=E.bw.base_le
theorem map_st (h:w.ownsMap Tryz.prog 42 Rh mb mn D)(q:w.grownBy w' (some mb)):∀(k:Nat) (o:Array Value) (t:Nat) (f:Nat×Nat),w.heap[k]?=some (.cells o t f)→w'.heap[k]?=w.heap[k]?:=fun k o t f e=>by
 refine q.block k (gs e).1 (fun hk=>?_)
 injection hk with hk
 subst hk
 obtain ⟨es,clock,hb,_⟩:=h
 rw [hb] at e
 cases e
theorem bt_fe {W:World}(B:Kc.Bt lo w a n L)(F:Fe 66 base w W):Kc.Bt lo W a n L:=B.to fun k o t f _ ht e=>F.cells e (by rcases ht with rfl|rfl<;>decide) (by rcases ht with rfl|rfl<;>decide) (by rcases ht with rfl|rfl<;>decide)
theorem bt_fm {W:World}(B:Kc.Bt lo w a n L)(F:Fm base w W):Kc.Bt lo W a n L:=B.to fun k o t f _ ht e=>F.keep k o t f e (by rcases ht with rfl|rfl<;>decide)
theorem ct_fm {W:World}{ca:Option Addr}{cn:Nat}{cd:List Mi.Mv}(C:Ts.Ct w ca cn cd)(F:Fm base w W):Ts.Ct W ca cn cd:=C.to fun k o f e=>F.keep k o _ f e (by decide)
theorem ct_fe {W:World}{ca:Option Addr}{cn:Nat}{cd:List Mi.Mv}(C:Ts.Ct w ca cn cd)(F:Fe 66 base w W):Ts.Ct W ca cn cd:=C.to fun k o f e=>F.cells e (by decide) (by decide) (by decide)
theorem Ew.turn (E:Ew lo w base g room M gh hc O a n cap mb mn D s L pu sl)(q:w.grownBy w' (some mb)){mn':Nat}{D':DataW Value}(h:w'.ownsMap Tryz.prog 42 Rh mb mn' D')(hc':∀b∈L,∀z,D'.atKey (.int .u32 b.pc) z=D.atKey (.int .u32 b.pc) z):Ew lo w' base g room M gh hc O a n cap mb mn' D' s L pu sl∧Fm base w w':=by
 have st:=map_st E.map q
 refine ⟨⟨Bw.to E.bw st,E.bt.to fun k o t f _ _ e=>st k o t f e,E.cap,E.bm,h,fun b hb=>?_⟩,⟨(Below.refl base w).grown q E.base_le (fun k hk=>by injection hk with hk;subst hk;exact E.bm),fun k o t f e _=>st k o t f e⟩⟩
 obtain ⟨ca,cn,cc,h1,h2⟩:=E.code b hb
 exact ⟨ca,cn,cc,fun z=>(hc' b hb z).trans (h1 z),h2.to fun k o f e=>st k o _ f e⟩
theorem Ew.take (E:Ew lo w base g room M gh hc O a n cap mb mn D s L pu sl){s':Sh}(B:Bd 66 (rsE room a n cap pu sl mb) w' base g s')(F:Fe 66 base w w'):Ev lo w' base g room s' L pu sl mn:=by
 obtain ⟨M',gh',hc',O',B⟩:=B
 refine ⟨M',gh',hc',O',a,n,cap,mb,D,B,bt_fe E.bt F,E.cap,E.bm,?_,fun b hb=>?_⟩
 ·obtain ⟨es,clock,hb,r⟩:=E.map
  exact ⟨es,clock,F.keep mb _ hb (fun _ _ h=>by cases h) (fun _ _ h=>by cases h) (fun _ _ h=>by cases h),r⟩
 ·obtain ⟨ca,cn,cc,h1,h2⟩:=E.code b hb
  exact ⟨ca,cn,cc,h1,ct_fe h2 F⟩
theorem Ew.mid (E:Ew lo w base g room M gh hc O a n cap mb mn D s L pu sl)(r:Int)(a':Option Addr)(n' cap':Nat)(pu' sl':Int):
  Bw 66 (rsE r a' n' cap' pu' sl' mb) (set4 w g r a' n' cap' pu' sl') base g M gh hc O s∧Fm base w (set4 w g r a' n' cap' pu' sl')∧(set4 w g r a' n' cap' pu' sl').ownsMap Tryz.prog 42 Rh mb mn D:=by
 have B0:=E.bw.setR 0 (.int .i64 r)
 have B1:=B0.setR 1 (.slice a' n' cap')
 have B2:=B1.setR 2 (.int .i64 pu')
 have B3:=B2.setR 3 (.int .i64 sl')
 have F:Fe 66 base w (set4 w g r a' n' cap' pu' sl'):=
  ((((Fe.refl base w).setCell E.bw.blk E.bw.bg _ _).setCell B0.blk E.bw.bg _ _).setCell B1.blk E.bw.bg _ _).setCell B2.blk E.bw.bg _ _
 refine ⟨B3,((((Fm.refl base w).set E.bw.blk E.bw.bg _ _).set B0.blk E.bw.bg _ _).set B1.blk E.bw.bg _ _).set B2.blk E.bw.bg _ _,?_⟩
 obtain ⟨es,clock,hb,r⟩:=E.map
 exact ⟨es,clock,F.keep mb _ hb (fun _ _ h=>by cases h) (fun _ _ h=>by cases h) (fun _ _ h=>by cases h),r⟩
theorem Ew.set (E:Ew lo w base g room M gh hc O a n cap mb mn D s L pu sl){lo':Nat}{a':Option Addr}{n' cap':Nat}{L':List Kc.Bv}(pu' sl':Int)(B:Kc.Bt lo' w a' n' L')(hcap:n'≤cap')(hc':∀b∈L',b∈L):
  Ew lo' (set4 w g room a' n' cap' pu' sl') base g room M gh hc O a' n' cap' mb mn D s L' pu' sl'∧Fm base w (set4 w g room a' n' cap' pu' sl'):=by
 obtain ⟨B3,F,m⟩:=E.mid room a' n' cap' pu' sl'
 refine ⟨⟨B3,bt_fm B F,hcap,E.bm,m,fun b hb=>?_⟩,F⟩
 obtain ⟨ca,cn,cc,h1,h2⟩:=E.code b (hc' b hb)
 exact ⟨ca,cn,cc,h1,ct_fm h2 F⟩
theorem Ew.put (E:Ew lo w base g room M gh hc O a n cap mb mn D s L pu sl){lo':Nat}{a':Option Addr}{n' cap':Nat}{L':List Kc.Bv}{pu' sl':Int}(B:Kc.Bt lo' w a' n' L')(hcap:n'≤cap'){W:World}(q:(set4 w g room a' n' cap' pu' sl').grownBy W (some mb)){mn':Nat}{D':DataW Value}(h:W.ownsMap Tryz.prog 42 Rh mb mn' D')
  (hc':∀b∈L',∃ca cn cc,(∀z,D'.atKey (.int .u32 b.pc) z=.held (.slice ca cn cc))∧Ts.Ct w ca cn (Ts.codeV b.pc b.is 0)):Ew lo' W base g room M gh hc O a' n' cap' mb mn' D' s L' pu' sl'∧Fm base w W:=by
 obtain ⟨B3,F,m⟩:=E.mid room a' n' cap' pu' sl'
 have st:=map_st m q
 refine ⟨⟨Bw.to B3 st,(bt_fm B F).to fun k o t f _ _ e=>st k o t f e,hcap,E.bm,h,fun b hb=>?_⟩,F.trans ⟨(Below.refl base _).grown q B3.base_le (fun k hk=>by injection hk with hk;subst hk;exact E.bm),fun k o t f e _=>st k o t f e⟩⟩
 obtain ⟨ca,cn,cc,h1,h2⟩:=hc' b hb
 exact ⟨ca,cn,cc,h1,(ct_fm h2 F).to fun k o f e=>st k o _ f e⟩
theorem Ew.row (E:Ew lo w base g room M gh hc O a n cap mb mn D s L pu sl){z:Nat}{Z:Array Value}(hz:w.heap[z]?=some (.cells Z 45 (0,0)))(hl:z<lo)(cs:Array Value):Ew lo (w.setRow z cs) base g room M gh hc O a n cap mb mn D s L pu sl:=by
 have st:∀(k:Nat) (o:Array Value) (t:Nat) (f:Nat×Nat),t≠45→w.heap[k]?=some (.cells o t f)→(w.setRow z cs).heap[k]?=w.heap[k]?:=fun k o t f ht e=>sro (ne_of_types e hz ht)
 refine ⟨⟨E.bw.t1,E.bw.t2,E.bw.t3,E.bw.bg,(st _ _ _ _ (by decide) E.bw.blk).trans E.bw.blk,E.bw.mem.to fun k o f e=>st k o _ f (by decide) e,E.bw.bh,E.bw.row.to fun k o f e=>st k o _ f (by decide) e,owns_to E.bw.out fun k o f e=>st k o _ f (by decide) e⟩,E.bt.to fun k o t f hk _ e=>sro (by omega),E.cap,E.bm,owns_map_to E.map (sro (fun e=>?_)),fun b hb=>?_⟩
 ·obtain ⟨es,clock,hb,_⟩:=E.map
  rw [e,hz] at hb
  cases hb
 ·obtain ⟨ca,cn,cc,h1,h2⟩:=E.code b hb
  exact ⟨ca,cn,cc,h1,h2.to fun k o f e=>st k o _ f (by decide) e⟩
theorem Ev.row (E:Ev lo w base g room s L pu sl mn){z:Nat}{Z:Array Value}(hz:w.heap[z]?=some (.cells Z 45 (0,0)))(hl:z<lo)(cs:Array Value):Ev lo (w.setRow z cs) base g room s L pu sl mn:=by
 obtain ⟨M,gh,hc,O,a,n,cap,mb,D,E⟩:=E
 exact ⟨M,gh,hc,O,a,n,cap,mb,D,E.row hz hl cs⟩
theorem Ew.low (E:Ew lo w base g room M gh hc O a n cap mb mn D s L pu sl):Ew 0 w base g room M gh hc O a n cap mb mn D s L pu sl:=⟨E.bw,E.bt.low (Nat.zero_le _),E.cap,E.bm,E.map,E.code⟩
theorem Ev.low (E:Ev lo w base g room s L pu sl mn):Ev 0 w base g room s L pu sl mn:=by
 obtain ⟨M,gh,hc,O,a,n,cap,mb,D,E⟩:=E
 exact ⟨M,gh,hc,O,a,n,cap,mb,D,E.low⟩
theorem Ew.c4 (E:Ew lo w base g room M gh hc O a n cap mb mn D s L pu sl):w.cell? ⟨g,4,none⟩=some (.int .i64 room):=E.bw.rest 0
theorem Ew.c5 (E:Ew lo w base g room M gh hc O a n cap mb mn D s L pu sl):w.cell? ⟨g,5,none⟩=some (.slice a n cap):=E.bw.rest 1
theorem Ew.c6 (E:Ew lo w base g room M gh hc O a n cap mb mn D s L pu sl):w.cell? ⟨g,6,none⟩=some (.int .i64 pu):=E.bw.rest 2
theorem Ew.c7 (E:Ew lo w base g room M gh hc O a n cap mb mn D s L pu sl):w.cell? ⟨g,7,none⟩=some (.int .i64 sl):=E.bw.rest 3
theorem Ew.c8 (E:Ew lo w base g room M gh hc O a n cap mb mn D s L pu sl):w.cell? ⟨g,8,none⟩=some (.map (some mb)):=E.bw.rest 4
theorem del_other {pd:Lit→DataW Value→Bool}{D:DataW Value}{kl:Lit}(h:∀d,pd kl d=false)(z:DataW Value):(Lib.deleteFuncD pd D).atKey kl z=D.atKey kl z:=by
 cases D with
 | map es=>
  simp only [Lib.deleteFuncD,DataW.atKey]
  rw [Maps.find_filter_keep fun p hp=>by rw [WideAt.sameKey_eq hp,h];rfl]
 | _=>rfl
theorem forget_any (E:Ew lo w base g room M gh hc O a n cap mb mn D s L pu sl)(hn:n≤140737488351232):
  Calls Tryz.prog 56 #[.pointer (some ⟨g,0,none⟩)] w fun e w'=>e=.returned (.tuple #[])∧(∃D',Ew lo w' base g room M gh hc O a n cap mb mn D' s L pu sl)∧Fm base w w':=by
 have HM:Hid (∀(W:World) (C:Nat),Gr w W→W.cell? ⟨C,0,none⟩=some (.pointer (some ⟨g,0,none⟩))→Calls Tryz.prog 81 #[.map (some mb),.func (.func 82) #[] #[.pointer (some ⟨C,0,none⟩)]] W fun e w'=>e=.returned (.tuple #[])∧(∃D',Ew lo w' base g room M gh hc O a n cap mb mn D' s L pu sl)∧Fm base w w'):=fun W C G kc=>by
  have EW:=E.of G
  refine (mdel_any (fun kl _=>match kl with|.int _ x=>!decide (0≤Kc.place x L 0)|_=>true) C EW.map ?_).mono ?_
  ·intro V x v q h0 h1
   have st:=map_st EW.map q
   have ck:V.cell? ⟨C,0,none⟩=some (.pointer (some ⟨g,0,none⟩)):=by
    have hne:some C≠some mb:=fun hk=>by
     injection hk with hk
     subst hk
     obtain ⟨es,clock,hb,_⟩:=EW.map
     simp [World.cell?,hb] at kc
    exact (World.cell?_of_block (q.block C (World.block_lt_of_cell? W _ kc) hne)).trans kc
   have c5:V.cell? ⟨g,5,none⟩=some (.slice a n cap):=(World.cell?_of_block (st _ _ _ _ EW.bw.blk)).trans EW.c5
   exact fgt1_any ck c5 (EW.bt.to fun k o t f _ _ e=>st k o t f e).bs hn x v
  ·rintro e w' ⟨rfl,hm,q⟩
   have:=EW.turn q hm (fun b hb z=>del_other (fun d=>by
    have:0≤Kc.place b.pc L 0:=by
     obtain ⟨i,hi⟩:=List.mem_iff_getElem?.1 hb
     exact pl_in hi
    simp [this]) z)
   exact ⟨rfl,⟨_,this.1⟩,(Fm.ofGr G E.base_le).trans this.2⟩
 have k8:=E.c8
 have hg:=E.bw.lt
 clear E hn
 go_enter Tryz.func56,Tryz.ntmps56
 go_wp2_with fail
 refine (HM.out _ w.heap.size ((Gr.refl _).alloc _) (by simp)).mono ?_
 rintro e w1 ⟨rfl,h1,h2⟩
 have H1:Hid _:=h1
 have H2:Hid _:=h2
 clear h1 h2 HM k8
 go_wp2_with fail
 go_end0
 exact ⟨rfl,H1.out,H2.out⟩
end
end Go.Proofs.YtchllaeembmioaaGreatDoor.En
