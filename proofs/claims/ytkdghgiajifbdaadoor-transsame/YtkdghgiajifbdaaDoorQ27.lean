/-
  St: texts of ours that lie in one file.
-/
import Derived.Test.YtkdghgiajifbdaaDoorQ26
set_option linter.unusedVariables false
set_option linter.unusedSimpArgs false
set_option maxHeartbeats 8000000
set_option maxRecDepth 100000
namespace Go.Proofs.YtkdghgiajifbdaaDoor.Ts
open Go.ChangeShapes Go.WideShapes Go.ChangeAt Go.RowKit Mm Hh Hc Mi

theorem Sd.ones {w:World}{base g:Nat}{r:Rn}{ao:Option Addr}{mn c:Nat}{O S:Value}(D:Sd w base g r ao mn c O S):(gA r.h (.slice ao mn c) O r.n S).all (·.oneCell')=true:=by
 obtain ⟨a2,c2,e2⟩:=owns_word D.out
 obtain ⟨a3,c3,e3⟩:=owns_word D.sto
 exact gA_one rfl (by rw [e2];rfl) (by rw [e3];rfl)
theorem heap4_new (w:World)(a b c d:Obj):((((w.alloc a).alloc b).alloc c).alloc d).heap[w.heap.size+1+1+1]?=some d:=by
 have:=heap_alloc_new (((w.alloc a).alloc b).alloc c) d
 rwa [World.size_alloc,World.size_alloc,World.size_alloc] at this
theorem heap3_new (w:World)(a b c d:Obj):((((w.alloc a).alloc b).alloc c).alloc d).heap[w.heap.size+1+1]?=some c:=by
 have:=heap_alloc_new ((w.alloc a).alloc b) c
 rw [World.size_alloc,World.size_alloc] at this
 exact heap_up ((Gr.refl _).alloc _) this
theorem Sd.dr {w:World}{base g:Nat}{r:Rn}{ao:Option Addr}{mn c:Nat}{O S:Value}(D:Sd w base g r ao mn c O S){k:Nat}(hk:base≤k)(hg:k≠g){Z:Array Value}(hb:w.heap[k]?=some (.cells Z 50 (0,0)))(hm:∀ad,ao=some ad→0<mn→ad.block≠k)(cs:Array Value):Dr (w.setRow k cs) r (.slice ao mn c) O S:=by
 have ne:∀{t:Nat},t≠50→∀{j:Nat} {o:Array Value} {f:Nat×Nat},w.heap[j]?=some (.cells o t f)→(w.setRow k cs).heap[j]?=w.heap[j]?:=fun ht _ _ _ hj=>setRow_other _ _ _ _ (ne_of_types hj hb ht)
 have ml:=D.ml
 refine ⟨D.ok,⟨ao,c,by rw [ml],?_⟩,⟨base,owns_to D.out fun j o f hj=>ne (by decide) hj⟩,⟨base,owns_to D.sto fun j o f hj=>ne (by decide) hj⟩⟩
 rw [ml]
 exact mem_keep D.mem fun ad e h0 _=>setRow_other _ _ _ _ (hm ad e h0)
theorem Steps_any {w:World}{bpc:Int}{ba:Option Addr}{cnt:Nat}(bc:Nat){h:Hv}(oh:h.Ok)(hst:h.state=0){mo:Option Addr}{ml:Nat}(mc:Nat){l:List UInt8}(M:Mem w mo ml l)(hl:ml≤4096)(hcnt:cnt≤16)(wb:W bpc)(steps:Int):
  Calls Tryd.prog 20 #[.agg #[.int .u32 bpc,.slice ba cnt bc],.agg (hA h),.slice mo ml mc,.int .i64 steps] w fun e w'=>∃M' O S,e=.returned (.agg (gA (bst bpc (Wd.lo (bpc+4*(cnt:Int))) steps cnt 0 (mstart h l)).h M' O (bst bpc (Wd.lo (bpc+4*(cnt:Int))) steps cnt 0 (mstart h l)).n S))∧Dr w' (bst bpc (Wd.lo (bpc+4*(cnt:Int))) steps cnt 0 (mstart h l)) M' O S∧Gr w w':=by
 have HB1:Hid (Tryd.prog.built 50 [(0,.agg (hA h)),(1,.slice mo ml mc)]=some (gA h (.slice mo ml mc) nilS 0 nilS)):=built_didA oh _ rfl
 have HSH:Hid ((hA h).size=37):=hA_size oh
 have HSG:Hid ((gA h (.slice mo ml mc) nilS 0 nilS).size=41):=gA_size oh _ _ _ _
 have HOG:Hid ((gA h (.slice mo ml mc) nilS 0 nilS).all (·.oneCell')=true):=gA_one rfl rfl rfl
 have HV:Hid (∀(X:World) (Z:Array Value),X.heap.size=w.heap.size+1+1+1→Gr w X→Sd ((X.alloc (.cells Z 50)).setRow (w.heap.size+1+1+1) (gA h (.slice mo ml mc) nilS 0 nilS)) w.heap.size (w.heap.size+1+1+1) (mstart h l) mo ml mc nilS nilS):=fun X Z hX Gx=>by
  rw [←hX,World.setRow_alloc_new,hX]
  have G2:Gr w (X.alloc (.cells (gA h (.slice mo ml mc) nilS 0 nilS) 50)):=Gx.alloc _
  refine ⟨start_ok oh l,M.len,by omega,by rw [←hX];exact heap_alloc_new X _,M.of G2,fun ad e h0=>⟨?_,by simp [nilS,Value.ownBlock],by simp [nilS,Value.ownBlock]⟩,World.ownsRow_nil _ _ _ _,World.ownsRow_nil _ _ _ _⟩
  obtain ⟨b,o,e2,hb,_⟩:=M.spot h0
  rw [e] at e2
  obtain rfl:=Option.some.inj e2
  show b≠_
  omega
 have HMb:Hid (∀ad,mo=some ad→0<ml→ad.block<w.heap.size):=fun ad e h0=>by
  obtain ⟨b,o,e2,hb,_⟩:=M.spot h0
  rw [e] at e2
  obtain rfl:=Option.some.inj e2
  exact hb
 have HSt:Hid ((mstart h l).h.state=0):=hst
 have HML:Hid (l.length=ml):=M.len
 clear M
 generalize hHA:hA h=H0 at *
 generalize hGA:gA h (.slice mo ml mc) nilS 0 nilS=G0 at *
 clear hHA hGA
 go_enter Tryd.func20,Tryd.ntmps20
 go_wp2_with (first
  | (refine wpList_load_row rfl 43 (.tmp 5) rfl (w.heap.size+1) rfl 43 H0 (0,0) _ ?lh1 Tryd.underlying43 rfl (by rw [HSH.out];exact iHa) ?_;(case lh1=>exact heap_up ((Gr.refl _).alloc _) (heap_alloc2_new w _ _)))
  | (refine wpList_buildTo rfl 50 _ rfl _ rfl G0 (by have:=HB1.out;simp [Act.eval,Act.put];exact this) ?_)
  | (refine wpList_store_row rfl 50 (.tmp 9) _ rfl (w.heap.size+1+1+1) G0 rfl rfl 50 _ (heap4_new w _ _ _ _) (by rw [HSG.out];exact iDidA) (by rw [HSG.out];rfl) HOG.out ?_;refine atW (fun X=>Sd X w.heap.size (w.heap.size+1+1+1) (mstart h l) mo ml mc nilS nilS∧X.heap[w.heap.size]?=some (.cells #[.int .u32 bpc,.slice ba cnt bc] 34 (0,0))∧(∃Z:Array Value,Z.size=41∧X.heap[(w.heap.size+1+1)]?=some (.cells Z 50 (0,0)))∧Gr w X) ⟨HV.out _ _ (by simp) ((((Gr.refl _).alloc _).alloc _).alloc _),(setRow_other _ _ _ _ (by omega)).trans (heap_up ((((Gr.refl _).alloc _).alloc _).alloc _) (heap_alloc_new w _)),⟨_,rfl,(setRow_other _ _ _ _ (by omega)).trans (heap3_new w _ _ _ _)⟩,gr_setRow (((((Gr.refl _).alloc _).alloc _).alloc _).alloc _) (by omega) _⟩ ?_;rintro X ⟨D0,B0,⟨Z,hZ,BZ⟩,GX⟩;have kb0:X.cell? ⟨w.heap.size,0,none⟩=some (.int .u32 bpc):=cell_of_row _ _ _ _ _ _ B0;have kb1:X.cell? ⟨w.heap.size,1,none⟩=some (.slice ba cnt bc):=cell_of_row _ _ _ _ _ _ B0;have HD0:Hid (Sd X w.heap.size (w.heap.size+1+1+1) (mstart h l) mo ml mc nilS nilS):=D0;have HB0:Hid (X.heap[w.heap.size]?=some (.cells #[.int .u32 bpc,.slice ba cnt bc] 34 (0,0))):=B0;have HZ0:Hid (X.heap[(w.heap.size+1+1)]?=some (.cells Z 50 (0,0))):=BZ;have HZs:Hid (Z.size=41):=hZ;have HG0:Hid (Gr w X):=GX;clear D0 B0 BZ GX hZ HV HOG HSG HSH HB1))
 go_loopw [11] (fun i wr=>∃(k:Nat) (r:Rn) (a:Option Addr) (c:Nat) (O S:Value),k≤cnt∧i=.int .i64 k∧bst bpc (Wd.lo (bpc+4*(cnt:Int))) steps (cnt-k) k r=(bst bpc (Wd.lo (bpc+4*(cnt:Int))) steps cnt 0 (mstart h l))∧r.h.state=0∧r.n≤k∧r.out.length≤k∧r.sto.length≤k∧(∀ad,a=some ad→0<ml→ad.block≠(w.heap.size+1+1))∧Sd wr w.heap.size (w.heap.size+1+1+1) r a ml c O S∧wr.heap[w.heap.size]?=some (.cells #[.int .u32 bpc,.slice ba cnt bc] 34 (0,0))∧wr.heap[(w.heap.size+1+1)]?=some (.cells Z 50 (0,0))∧Gr w wr) (fun i _=>cnt-(intOf i).toNat)
 case atStart=>exact ⟨0,mstart h l,mo,mc,nilS,nilS,Nat.zero_le _,rfl,rfl,HSt.out,Nat.le_refl _,Nat.le_refl _,Nat.le_refl _,fun ad e h0=>by have:=HMb.out ad e h0;omega,HD0.out,HB0.out,HZ0.out,HG0.out⟩
 case round=>
  obtain ⟨k,r,a,c,O,S,hk,rfl,heq,hst2,hn,hout,hsto,hfar,D,B,ZZ,Gw⟩:=hrel
  have HEq:Hid (bst bpc (Wd.lo (bpc+4*(cnt:Int))) steps (cnt-k) k r=(bst bpc (Wd.lo (bpc+4*(cnt:Int))) steps cnt 0 (mstart h l))):=heq
  have HD:Hid (Sd wr w.heap.size (w.heap.size+1+1+1) r a ml c O S):=D
  have HB:Hid (wr.heap[w.heap.size]?=some (.cells #[.int .u32 bpc,.slice ba cnt bc] 34 (0,0))):=B
  have HZ:Hid (wr.heap[(w.heap.size+1+1)]?=some (.cells Z 50 (0,0))):=ZZ
  have HG:Hid (Gr w wr):=Gw
  have HFr:Hid (∀ad,a=some ad→0<ml→ad.block≠(w.heap.size+1+1)):=hfar
  have hgl:(w.heap.size+1+1+1)<wr.heap.size:=D.lt
  have kb0:wr.cell? ⟨w.heap.size,0,none⟩=some (.int .u32 bpc):=cell_of_row _ _ _ _ _ _ B
  have kb1:wr.cell? ⟨w.heap.size,1,none⟩=some (.slice ba cnt bc):=cell_of_row _ _ _ _ _ _ B
  have k39:wr.cell? ⟨(w.heap.size+1+1+1),39,none⟩=some (.int .i64 r.n):=D.top 2
  have k37:wr.cell? ⟨(w.heap.size+1+1+1),37,none⟩=some (.slice a ml c):=D.top 0
  clear heq B ZZ Gw hfar HD0 HB0 HZ0 HG0
  by_cases hkc:k<cnt
  ·by_cases hns:(r.n:Int)<steps
   ·have oS:(stp r.h r.m).h.Ok:=stp_ok D.ok.h r.m
    obtain ⟨lS,lo1,ls1⟩:=stp_len D.ok.h r.m
    have HSt2:Hid (∀p∈(stp r.h r.m).sto,Mc.StOk r.m p):=(Mc.stp_sto D.ok.h r.m).1
    have HStop:Hid (bstop bpc (Wd.lo (bpc+4*(cnt:Int))) k (stp r.h r.m)=true→b1 r=(bst bpc (Wd.lo (bpc+4*(cnt:Int))) steps cnt 0 (mstart h l))):=fun hb=>by
     have e:=HEq.out
     rw [show cnt-k=(cnt-(k+1))+1 by omega,bst,if_pos hns,if_pos hb] at e
     exact e
    have HOn:Hid (bstop bpc (Wd.lo (bpc+4*(cnt:Int))) k (stp r.h r.m)=false→bst bpc (Wd.lo (bpc+4*(cnt:Int))) steps (cnt-(k+1)) (k+1) (b1 r)=(bst bpc (Wd.lo (bpc+4*(cnt:Int))) steps cnt 0 (mstart h l))):=fun hb=>by
     have e:=HEq.out
     rw [show cnt-k=(cnt-(k+1))+1 by omega,bst,if_pos hns,if_neg (by simp [hb])] at e
     exact e
    have HB1r:Hid (b1 r={ r with h:=(stp r.h r.m).h,m:=(stp r.h r.m).m,out:=r.out++(stp r.h r.m).out,n:=r.n+1,sto:=r.sto++(stp r.h r.m).sto }):=rfl
    have Stp:Hid (Calls Tryd.prog 42 #[.agg (hL r.h).toArray,.slice a ml c] wr fun e w'=>∃d,e=.returned (.agg (dA d))∧Hr.Dd w' (.slice a ml c) wr.heap.size d (stp r.h r.m)∧Gr wr w'):=Hr.rstep_any D.ok.h D.mem (by omega) hst2
    have HLr:Hid ((hL r.h).length=37):=hL_len D.ok.h
    have HOS:Hid ((stp r.h r.m).h.Ok):=oS
    rw [D.ml] at lS
    have HLS:Hid ((stp r.h r.m).m.length=ml):=lS
    clear D HEq oS lS
    generalize stp r.h r.m=T at *
    generalize b1 r=RB at *
    go_wp2_with (refine wpList_load_mid rfl 43 (.tmp 39) rfl (w.heap.size+1+1+1) 0 rfl (hL r.h) _ ?lm1 Tryd.underlying43 rfl (by rw [HLr.out];exact iHa) ?_;(case lm1=>exact HD.out.hart))
    refine Stp.out.mono ?_
    rintro e w1 ⟨d,rfl,DD,G1⟩
    obtain ⟨dok,dh,⟨a3,n3,c3,dm,M3,far3⟩,dout,dsto⟩:=DD
    have e3:n3=ml:=M3.len.symm.trans HLS.out
    rw [e3] at dm M3
    have HFar:Hid (∀ad,a3=some ad→0<ml→(ad.block≠(w.heap.size+1+1+1)∧O.ownBlock≠some ad.block∧S.ownBlock≠some ad.block)∧ad.block≠(w.heap.size+1+1)):=by
     intro ad ea h0
     rcases far3 with f|f
     ·rw [dm] at f
      injection f with f1 f2 f3
      exact ⟨HD.out.far ad (f1.symm.trans ea) h0,HFr.out ad (f1.symm.trans ea) h0⟩
     ·have h1:=f ad ea
      refine ⟨⟨by omega,fun e=>?_,fun e=>?_⟩,by omega⟩
      ·have:=(HD.out.out.lt _ e).2
       omega
      ·have:=(HD.out.sto.lt _ e).2
       omega
    have g37:(dA d)[37]?=some (.slice a3 ml c3):=by rw [dA_fld dok.h 0];simp [dm]
    have g38:(dA d)[38]?=some d.out:=by rw [dA_fld dok.h 1];rfl
    have g39:(dA d)[39]?=some (.int .u32 d.fro):=by rw [dA_fld dok.h 2];rfl
    have g40:(dA d)[40]?=some (.int .i64 d.many):=by rw [dA_fld dok.h 3];rfl
    have HSX:Hid ((dA d).size=41):=dA_size dok.h
    have HOX:Hid ((dA d).all (·.oneCell')=true):=one_dA dok
    have HLT:Hid ((hL T.h).length=37):=hL_len HOS.out
    have HXR:Hid (∀j v,(hL T.h)[j]?=some v→(dA d)[j]?=some v):=fun j v hj=>by
     have hj2:j<37:=by have:=(List.getElem?_eq_some_iff.1 hj).1;rw [HLT.out] at this;exact this
     rw [dA_get dok.h hj2,dh]
     exact hj
    have HOT:Hid (Hr.OutV w1 d.out T.out):=dout
    have HM3:Hid (Mem w1 a3 ml T.m):=M3
    have HG1:Hid (Gr wr w1):=G1
    have hgx:wr.heap.size≤w1.heap.size:=G1.size
    have HSV:Hid ((T.sto=[]∧d.many=0)∨(T.sto=[(d.fro,d.many)]∧0≤d.fro∧0<d.many∧d.fro+d.many≤4096)):=by
     rcases dsto with ⟨e1,e2,e3⟩|e1
     ·exact .inl ⟨e1,e3⟩
     ·have h2:=HSt2.out (d.fro,d.many) (by rw [e1];exact List.mem_singleton.2 rfl)
      have h3:=HD.out.ml
      unfold Mc.StOk at h2
      simp only at h2
      exact .inr ⟨e1,h2.1,h2.2.1,by omega⟩
    clear dok dh dm far3 dout dsto M3 Stp G1 HSt2 k37 k39
    generalize dA d=DA at *
    generalize d.out=OV at *
    generalize d.fro=fr at *
    generalize d.many=mm at *
    clear d e3
    obtain ⟨iW,hiW,zW0,zW1,zW2⟩:=info_parts infoU
    obtain ⟨iR,hiR,zR0,zR1,zR2⟩:=info_parts infoR
    obtain ⟨oa,oc,rfl⟩:=owns_word HD.out.out
    obtain ⟨sa,sc,rfl⟩:=owns_word HD.out.sto
    have HSX2:Hid ((hL T.h).toArray.size=37):=by unfold Hid;rw [List.size_toArray];exact HLT.out
    go_wp2_with (first
     | (refine wpList_store_row rfl 95 (.tmp 12) _ rfl w1.heap.size DA rfl rfl 95 _ (heap_alloc_new w1 _) (by rw [HSX.out];exact Hr.iD) (by rw [HSX.out];rfl) HOX.out ?_;refine atW (fun X=>X.heap[w1.heap.size]?=some (.cells DA 95 (0,0))∧Gr w1 X) ⟨setRow_heap _ _ _ _ _ (0,0) (heap_alloc_new w1 _),gr_setRow ((Gr.refl _).alloc _) (Nat.le_refl _) _⟩ ?_;rintro W1 ⟨X1,G2⟩;have D1:=HD.out.of (HG1.out.trans G2);have D2:=D1.setN (r.n+1);have C2:Ch (w.heap.size+1+1+1) w1 (W1.setCell ⟨(w.heap.size+1+1+1),39,none⟩ (.int .i64 ((r.n:Int)+1))):=((Ch.refl _ _).gr G2).setCell _ _;have k39:W1.cell? ⟨(w.heap.size+1+1+1),39,none⟩=some (.int .i64 r.n):=D1.top 2;have f39:=D1.fz 39;have HD2:Hid (Sd (W1.setCell ⟨(w.heap.size+1+1+1),39,none⟩ (.int .i64 ((r.n:Int)+1))) w.heap.size (w.heap.size+1+1+1) { r with n:=r.n+1 } a ml c (.slice oa r.out.length oc) (.slice sa r.sto.length sc)):=D2;have HX2:Hid ((W1.setCell ⟨(w.heap.size+1+1+1),39,none⟩ (.int .i64 ((r.n:Int)+1))).heap[w1.heap.size]?=some (.cells DA 95 (0,0))):=(heap_setCell_other _ _ _ _ (by show w1.heap.size≠(w.heap.size+1+1+1);omega)).trans X1;have HC2:Hid (Ch (w.heap.size+1+1+1) w1 (W1.setCell ⟨(w.heap.size+1+1+1),39,none⟩ (.int .i64 ((r.n:Int)+1)))):=C2;clear D1 D2 C2 X1 G2)
     | (refine wpList_load_mid rfl 43 (.tmp 48) rfl w1.heap.size 0 rfl (hL T.h) _ ?lm2 Tryd.underlying43 rfl (by rw [HLT.out];exact iHa) ?_;(case lm2=>exact fun j v hv=>by rw [Nat.zero_add,cell_of_row _ _ _ _ _ _ HX2.out];exact HXR.out j v hv))
     | (refine wpList_store_mid rfl 43 (.tmp 50) _ rfl (w.heap.size+1+1+1) 0 (hL T.h).toArray rfl rfl ?t1 (by rw [HSX2.out];exact iHa) (one_hA T.h) ?_;(case t1=>rw [HSX2.out];exact HD2.out.there);refine atW (fun X=>Sd X w.heap.size (w.heap.size+1+1+1) { r with n:=r.n+1,h:=T.h } a ml c (.slice oa r.out.length oc) (.slice sa r.sto.length sc)∧X.heap[w1.heap.size]?=some (.cells DA 95 (0,0))∧Ch (w.heap.size+1+1+1) w1 X) ⟨HD2.out.setH HOS.out,((Mc.Ch.setCells (Ch.refl _ _) _ _).block _ (Array.getElem?_eq_some_iff.1 HX2.out).1 (fun x=>by injection x with x;omega)).trans HX2.out,Mc.Ch.setCells HC2.out _ _⟩ ?_;rintro W4 ⟨D4,X4,C4⟩;have M4:Mem W4 a3 ml T.m:=mem_keep HM3.out (fun ad e h0 hl=>C4.block _ hl (fun x=>(HFar.out ad e h0).1.1 (by injection x)));have D5:=D4.setM c3 M4 (fun ad e h0=>(HFar.out ad e h0).1);have x37:W4.cell? ⟨w1.heap.size,37,none⟩=some (.slice a3 ml c3):=(cell_of_row _ _ _ _ _ _ X4).trans g37;have y37:W4.cell? ⟨(w.heap.size+1+1+1),37,none⟩=some (.slice a ml c):=D4.top 0;have f37:=D4.fz 37;have HD5:Hid (Sd (W4.setCell ⟨(w.heap.size+1+1+1),37,none⟩ (.slice a3 ml c3)) w.heap.size (w.heap.size+1+1+1) { r with n:=r.n+1,h:=T.h,m:=T.m } a3 ml c3 (.slice oa r.out.length oc) (.slice sa r.sto.length sc)):=D5;have HX5:Hid ((W4.setCell ⟨(w.heap.size+1+1+1),37,none⟩ (.slice a3 ml c3)).heap[w1.heap.size]?=some (.cells DA 95 (0,0))):=(heap_setCell_other _ _ _ _ (by show w1.heap.size≠(w.heap.size+1+1+1);omega)).trans X4;have HC5:Hid (Ch (w.heap.size+1+1+1) w1 (W4.setCell ⟨(w.heap.size+1+1+1),37,none⟩ (.slice a3 ml c3))):=C4.setCell _ _;have HO5:Hid (Hr.OutV (W4.setCell ⟨(w.heap.size+1+1+1),37,none⟩ (.slice a3 ml c3)) OV T.out):=outv_to HOT.out (fun hk=>HC5.out.block _ (Array.getElem?_eq_some_iff.1 hk).1 (fun x=>ne_of_types hk (heap_up HG1.out HD.out.blk) (by decide) (by injection x)));have y38:(W4.setCell ⟨(w.heap.size+1+1+1),37,none⟩ (.slice a3 ml c3)).cell? ⟨(w.heap.size+1+1+1),38,none⟩=some (.slice oa r.out.length oc):=D5.top 1;have x38:(W4.setCell ⟨(w.heap.size+1+1+1),37,none⟩ (.slice a3 ml c3)).cell? ⟨w1.heap.size,38,none⟩=some OV:=(cell_of_row _ _ _ _ _ _ HX5.out).trans g38;clear D4 X4 C4 M4 D5 HD2 HX2 HC2)
     | (at_builtin;refine wpList_append_src_at (base:=w.heap.size) (n:=r.out.length) (m:=T.out.length) rfl (.tmp 55) (.tmp 57) rfl Tryd.underlying47 hiW zW0 zW1 zW2 rfl (by decide) rfl rfl HD5.out.out (outv_src HO5.out) (u32_one1 _) (by unfold maxLen;omega) (by omega) HD5.out.base_le ?_))
    intro v7 w7 hown hgrow hv
    obtain ⟨a7,c7,rfl⟩:=owns_word hown
    obtain ⟨z1,z2,D8,F8⟩:=HD5.out.appO (os:=r.out++T.out) hgrow (by rw [List.length_append,List.map_append];exact hown) (by simpa using hv)
    have HX8:Hid ((w7.setCell ⟨(w.heap.size+1+1+1),38,none⟩ (.slice a7 (r.out.length+T.out.length) c7)).heap[w1.heap.size]?=some (.cells DA 95 (0,0))):=F8.at HX5.out (by omega) (by decide) (by decide)
    have HF8:Hid (Fk w.heap.size (w.heap.size+1+1+1) wr (w7.setCell ⟨(w.heap.size+1+1+1),38,none⟩ (.slice a7 (r.out.length+T.out.length) c7))):=((Fk.ofGr HG1.out (by omega)).trans (Fk.ofCh HC5.out (by omega) (by omega))).trans F8
    have HD8:Hid (Sd (w7.setCell ⟨(w.heap.size+1+1+1),38,none⟩ (.slice a7 (r.out.length+T.out.length) c7)) w.heap.size (w.heap.size+1+1+1) { r with n:=r.n+1,h:=T.h,m:=T.m,out:=r.out++T.out } a3 ml c3 (.slice a7 (r.out.length+T.out.length) c7) (.slice sa r.sto.length sc)):=D8
    have HB8:Hid ((w7.setCell ⟨(w.heap.size+1+1+1),38,none⟩ (.slice a7 (r.out.length+T.out.length) c7)).heap[w.heap.size]?=some (.cells #[.int .u32 bpc,.slice ba cnt bc] 34 (0,0))):=HF8.out.at HB.out (by omega) (by decide) (by decide)
    have HZ8:Hid ((w7.setCell ⟨(w.heap.size+1+1+1),38,none⟩ (.slice a7 (r.out.length+T.out.length) c7)).heap[(w.heap.size+1+1)]?=some (.cells Z 50 (0,0))):=HF8.out.at HZ.out (by omega) (by decide) (by decide)
    have HG8:Hid (Gr w (w7.setCell ⟨(w.heap.size+1+1+1),38,none⟩ (.slice a7 (r.out.length+T.out.length) c7))):=Below.trans HG.out HF8.out.below
    have x40:(w7.setCell ⟨(w.heap.size+1+1+1),38,none⟩ (.slice a7 (r.out.length+T.out.length) c7)).cell? ⟨w1.heap.size,40,none⟩=some (.int .i64 mm):=(cell_of_row _ _ _ _ _ _ HX8.out).trans g40
    have x39:(w7.setCell ⟨(w.heap.size+1+1+1),38,none⟩ (.slice a7 (r.out.length+T.out.length) c7)).cell? ⟨w1.heap.size,39,none⟩=some (.int .u32 fr):=(cell_of_row _ _ _ _ _ _ HX8.out).trans g39
    have y35:(w7.setCell ⟨(w.heap.size+1+1+1),38,none⟩ (.slice a7 (r.out.length+T.out.length) c7)).cell? ⟨(w.heap.size+1+1+1),35,none⟩=some (.int .i64 T.h.state):=D8.fld (j:=3) (by omega)
    have y32:(w7.setCell ⟨(w.heap.size+1+1+1),38,none⟩ (.slice a7 (r.out.length+T.out.length) c7)).cell? ⟨(w.heap.size+1+1+1),32,none⟩=some (.int .u32 T.h.pc):=D8.fld (j:=0) (by omega)
    have y40:(w7.setCell ⟨(w.heap.size+1+1+1),38,none⟩ (.slice a7 (r.out.length+T.out.length) c7)).cell? ⟨(w.heap.size+1+1+1),40,none⟩=some (.slice sa r.sto.length sc):=D8.top 3
    have e0:(w7.setCell ⟨(w.heap.size+1+1+1),38,none⟩ (.slice a7 (r.out.length+T.out.length) c7)).cell? ⟨w.heap.size,0,none⟩=some (.int .u32 bpc):=cell_of_row _ _ _ _ _ _ HB8.out
    have e1:(w7.setCell ⟨(w.heap.size+1+1+1),38,none⟩ (.slice a7 (r.out.length+T.out.length) c7)).cell? ⟨w.heap.size,1,none⟩=some (.slice ba cnt bc):=cell_of_row _ _ _ _ _ _ HB8.out
    clear D8 F8 hown hgrow hv
    rcases HSV.out with ⟨hs0,hm0⟩|⟨hs1,hf0,hm1,hfm⟩
    ·subst hm0
     have HR9:Hid ({ r with n:=r.n+1,h:=T.h,m:=T.m,out:=r.out++T.out }=RB):=by unfold Hid;rw [HB1r.out,hs0,List.append_nil]
     have HBN:Hid (RB.n≤k+1):=by unfold Hid;rw [HB1r.out];show r.n+1≤k+1;omega
     have HBO:Hid (RB.out.length≤k+1):=by unfold Hid;rw [HB1r.out];show (r.out++T.out).length≤k+1;rw [List.length_append];omega
     have HBS:Hid (RB.sto.length≤k+1):=by unfold Hid;rw [HB1r.out];show (r.sto++T.sto).length≤k+1;rw [List.length_append];omega
     by_cases hss:T.h.state=0
     ·by_cases hpp:T.h.pc=(bpc+(4*(k:Int)+4))%4294967296
      ·have HON2:Hid _:=HOn.out (by unfold bstop;rw [hs0,decide_eq_false (by simp [hss]),decide_eq_false (fun h=>h hpp)];rfl)
       have HSTT:Hid (RB.h.state=0):=by unfold Hid;rw [HB1r.out];exact hss
       have hp2:(T.h.pc == (bpc+(4*(k:Int)+4))%4294967296)=true:=by simpa using hpp
       have HD9:Hid (Sd (w7.setCell ⟨(w.heap.size+1+1+1),38,none⟩ (.slice a7 (r.out.length+T.out.length) c7)) w.heap.size (w.heap.size+1+1+1) RB a3 ml c3 (.slice a7 (r.out.length+T.out.length) c7) (.slice sa r.sto.length sc)):=(by unfold Hid;rw [←HR9.out];exact HD8.out)
       go_wp2
       go_roundw
       case rel=>exact ⟨k+1,RB,a3,c3,(.slice a7 (r.out.length+T.out.length) c7),(.slice sa r.sto.length sc),by omega,by go_num,HON2.out,HSTT.out,HBN.out,HBO.out,HBS.out,fun ad e h0=>(HFar.out ad e h0).2,HD9.out,HB8.out,HZ8.out,HG8.out⟩
       case measure=>simp [intOf];omega
      ·have HRF:Hid (RB=(bst bpc (Wd.lo (bpc+4*(cnt:Int))) steps cnt 0 (mstart h l))):=HStop.out (by unfold bstop;rw [decide_eq_true (show ¬T.h.pc=Wd.lo (bpc+(4*(k:Int)+4)) from hpp)];simp)
       have hp2:(T.h.pc == (bpc+(4*(k:Int)+4))%4294967296)=false:=by simpa using hpp
       have HD9:Hid (Sd (w7.setCell ⟨(w.heap.size+1+1+1),38,none⟩ (.slice a7 (r.out.length+T.out.length) c7)) w.heap.size (w.heap.size+1+1+1) RB a3 ml c3 (.slice a7 (r.out.length+T.out.length) c7) (.slice sa r.sto.length sc)):=(by unfold Hid;rw [←HR9.out];exact HD8.out)
       have HDid:Hid ((w7.setCell ⟨(w.heap.size+1+1+1),38,none⟩ (.slice a7 (r.out.length+T.out.length) c7)).heap[(w.heap.size+1+1+1)]?=some (.cells (gA RB.h (.slice a3 ml c3) (.slice a7 (r.out.length+T.out.length) c7) RB.n (.slice sa r.sto.length sc)) 50 (0,0))):=HD9.out.blk
       have HSA:Hid ((gA RB.h (.slice a3 ml c3) (.slice a7 (r.out.length+T.out.length) c7) RB.n (.slice sa r.sto.length sc)).size=41):=gA_size HD9.out.ok.h _ _ _ _
       have HONE:Hid ((gA RB.h (.slice a3 ml c3) (.slice a7 (r.out.length+T.out.length) c7) RB.n (.slice sa r.sto.length sc)).all (·.oneCell')=true):=HD9.out.ones
       have HDr:Hid (∀cs:Array Value,Dr ((w7.setCell ⟨(w.heap.size+1+1+1),38,none⟩ (.slice a7 (r.out.length+T.out.length) c7)).setRow (w.heap.size+1+1) cs) RB (.slice a3 ml c3) (.slice a7 (r.out.length+T.out.length) c7) (.slice sa r.sto.length sc)):=(fun cs=>HD9.out.dr (by omega) (by omega) HZ8.out (fun ad e h0=>(HFar.out ad e h0).2) cs)
       have HEA:Hid (gA RB.h (.slice a3 ml c3) (.slice a7 (r.out.length+T.out.length) c7) RB.n (.slice sa r.sto.length sc)=gA (bst bpc (Wd.lo (bpc+4*(cnt:Int))) steps cnt 0 (mstart h l)).h (.slice a3 ml c3) (.slice a7 (r.out.length+T.out.length) c7) (bst bpc (Wd.lo (bpc+4*(cnt:Int))) steps cnt 0 (mstart h l)).n (.slice sa r.sto.length sc)):=(by unfold Hid;rw [←HRF.out])
       have HEB:Hid (RB=(bst bpc (Wd.lo (bpc+4*(cnt:Int))) steps cnt 0 (mstart h l))):=HRF.out
       generalize gA RB.h (.slice a3 ml c3) (.slice a7 (r.out.length+T.out.length) c7) RB.n (.slice sa r.sto.length sc)=DDD at *
       go_wp2_with (first
        | (refine wpList_load_row rfl 50 (.tmp 9) rfl (w.heap.size+1+1+1) rfl 50 DDD (0,0) _ ?lr1 Tryd.underlying50 rfl (by rw [HSA.out];exact iDidA) ?_;(case lr1=>exact HDid.out))
        | (refine wpList_store_row rfl 50 (.tmp 8) _ rfl (w.heap.size+1+1) DDD rfl rfl 50 Z ?sr1 (by rw [HSA.out];exact iDidA) (by rw [HSA.out];exact HZs.out) HONE.out ?_;(case sr1=>exact HZ8.out)))
       refine bodyPost_ret (v:=.agg DDD) (results_cell_row Tryd.results20 _ _ _ _ _ (0,0) _ rfl (setRow_heap _ _ _ _ _ (0,0) HZ8.out) Tryd.underlying50 rfl (by rw [HSA.out];exact iDidA)) rfl ⟨.slice a3 ml c3,(.slice a7 (r.out.length+T.out.length) c7),(.slice sa r.sto.length sc),?_,?_,?_⟩
       ·rw [HEA.out]
       ·rw [←HEB.out]
        exact HDr.out _
       ·exact gr_setRow HG8.out (by omega) _
     ·have HRF:Hid (RB=(bst bpc (Wd.lo (bpc+4*(cnt:Int))) steps cnt 0 (mstart h l))):=HStop.out (by unfold bstop;rw [decide_eq_true hss];rfl)
      have hs2:(T.h.state == 0)=false:=by simpa using hss
      have HD9:Hid (Sd (w7.setCell ⟨(w.heap.size+1+1+1),38,none⟩ (.slice a7 (r.out.length+T.out.length) c7)) w.heap.size (w.heap.size+1+1+1) RB a3 ml c3 (.slice a7 (r.out.length+T.out.length) c7) (.slice sa r.sto.length sc)):=(by unfold Hid;rw [←HR9.out];exact HD8.out)
      have HDid:Hid ((w7.setCell ⟨(w.heap.size+1+1+1),38,none⟩ (.slice a7 (r.out.length+T.out.length) c7)).heap[(w.heap.size+1+1+1)]?=some (.cells (gA RB.h (.slice a3 ml c3) (.slice a7 (r.out.length+T.out.length) c7) RB.n (.slice sa r.sto.length sc)) 50 (0,0))):=HD9.out.blk
      have HSA:Hid ((gA RB.h (.slice a3 ml c3) (.slice a7 (r.out.length+T.out.length) c7) RB.n (.slice sa r.sto.length sc)).size=41):=gA_size HD9.out.ok.h _ _ _ _
      have HONE:Hid ((gA RB.h (.slice a3 ml c3) (.slice a7 (r.out.length+T.out.length) c7) RB.n (.slice sa r.sto.length sc)).all (·.oneCell')=true):=HD9.out.ones
      have HDr:Hid (∀cs:Array Value,Dr ((w7.setCell ⟨(w.heap.size+1+1+1),38,none⟩ (.slice a7 (r.out.length+T.out.length) c7)).setRow (w.heap.size+1+1) cs) RB (.slice a3 ml c3) (.slice a7 (r.out.length+T.out.length) c7) (.slice sa r.sto.length sc)):=(fun cs=>HD9.out.dr (by omega) (by omega) HZ8.out (fun ad e h0=>(HFar.out ad e h0).2) cs)
      have HEA:Hid (gA RB.h (.slice a3 ml c3) (.slice a7 (r.out.length+T.out.length) c7) RB.n (.slice sa r.sto.length sc)=gA (bst bpc (Wd.lo (bpc+4*(cnt:Int))) steps cnt 0 (mstart h l)).h (.slice a3 ml c3) (.slice a7 (r.out.length+T.out.length) c7) (bst bpc (Wd.lo (bpc+4*(cnt:Int))) steps cnt 0 (mstart h l)).n (.slice sa r.sto.length sc)):=(by unfold Hid;rw [←HRF.out])
      have HEB:Hid (RB=(bst bpc (Wd.lo (bpc+4*(cnt:Int))) steps cnt 0 (mstart h l))):=HRF.out
      generalize gA RB.h (.slice a3 ml c3) (.slice a7 (r.out.length+T.out.length) c7) RB.n (.slice sa r.sto.length sc)=DDD at *
      go_wp2_with (first
       | (refine wpList_load_row rfl 50 (.tmp 9) rfl (w.heap.size+1+1+1) rfl 50 DDD (0,0) _ ?lr1 Tryd.underlying50 rfl (by rw [HSA.out];exact iDidA) ?_;(case lr1=>exact HDid.out))
       | (refine wpList_store_row rfl 50 (.tmp 8) _ rfl (w.heap.size+1+1) DDD rfl rfl 50 Z ?sr1 (by rw [HSA.out];exact iDidA) (by rw [HSA.out];exact HZs.out) HONE.out ?_;(case sr1=>exact HZ8.out)))
      refine bodyPost_ret (v:=.agg DDD) (results_cell_row Tryd.results20 _ _ _ _ _ (0,0) _ rfl (setRow_heap _ _ _ _ _ (0,0) HZ8.out) Tryd.underlying50 rfl (by rw [HSA.out];exact iDidA)) rfl ⟨.slice a3 ml c3,(.slice a7 (r.out.length+T.out.length) c7),(.slice sa r.sto.length sc),?_,?_,?_⟩
      ·rw [HEA.out]
      ·rw [←HEB.out]
       exact HDr.out _
      ·exact gr_setRow HG8.out (by omega) _
    ·have HR9:Hid ({ r with n:=r.n+1,h:=T.h,m:=T.m,out:=r.out++T.out,sto:=r.sto++[(fr,mm)] }=RB):=by unfold Hid;rw [HB1r.out,hs1]
     have HLo:Hid (Wd.lo (fr+mm)=fr+mm):=by unfold Hid Wd.lo;omega
     have HHit:Hid (T.sto.any (hitB bpc (Wd.lo (bpc+4*(cnt:Int))))=decide (fr<(bpc+4*(cnt:Int))%4294967296∧bpc<fr+mm)):=by unfold Hid;rw [hs1];simp only [List.any_cons,List.any_nil,Bool.or_false];unfold hitB;simp only;rw [HLo.out];rfl
     have HBN:Hid (RB.n≤k+1):=by unfold Hid;rw [HB1r.out];show r.n+1≤k+1;omega
     have HBO:Hid (RB.out.length≤k+1):=by unfold Hid;rw [HB1r.out];show (r.out++T.out).length≤k+1;rw [List.length_append];omega
     have HBS:Hid (RB.sto.length≤k+1):=by unfold Hid;rw [HB1r.out];show (r.sto++T.sto).length≤k+1;rw [List.length_append];omega
     have hg7:(w.heap.size+1+1+1)<w7.heap.size:=(by have:=HD8.out.lt;simpa using this)
     have hx7:w1.heap.size<w7.heap.size:=(by have:=(Array.getElem?_eq_some_iff.1 HX8.out).1;simpa using this)
     go_wp2_with (at_builtin;have h7:(w7.setCell ⟨(w.heap.size+1+1+1),38,none⟩ (.slice a7 (r.out.length+T.out.length) c7)).heap.size=w7.heap.size:=(by simp);have N10:(((w7.setCell ⟨(w.heap.size+1+1+1),38,none⟩ (.slice a7 (r.out.length+T.out.length) c7)).alloc (.cells #[.int .u32 fr,.int .u32 (fr+mm)] 46)).alloc (.cells #[.int .u32 fr,.int .u32 (fr+mm)] 46)).heap[w7.heap.size+1]?=some (.cells #[.int .u32 fr,.int .u32 (fr+mm)] 46 (0,0)):=(by have:=heap_alloc2_new (w7.setCell ⟨(w.heap.size+1+1+1),38,none⟩ (.slice a7 (r.out.length+T.out.length) c7)) (.cells #[.int .u32 fr,.int .u32 (fr+mm)] 46 (0,0)) (.cells #[.int .u32 fr,.int .u32 (fr+mm)] 46 (0,0));rwa [h7] at this);have O10:(((w7.setCell ⟨(w.heap.size+1+1+1),38,none⟩ (.slice a7 (r.out.length+T.out.length) c7)).alloc (.cells #[.int .u32 fr,.int .u32 (fr+mm)] 46)).alloc (.cells #[.int .u32 fr,.int .u32 (fr+mm)] 46)).heap[w7.heap.size]?=some (.cells #[.int .u32 fr,.int .u32 (fr+mm)] 46 (0,0)):=(by have:=heap_alloc2_old (w7.setCell ⟨(w.heap.size+1+1+1),38,none⟩ (.slice a7 (r.out.length+T.out.length) c7)) (.cells #[.int .u32 fr,.int .u32 (fr+mm)] 46 (0,0)) (.cells #[.int .u32 fr,.int .u32 (fr+mm)] 46 (0,0));rwa [h7] at this);refine wpList_append_src_at (base:=w.heap.size) (n:=r.sto.length) (m:=1) rfl (.tmp 73) (.tmp 75) rfl Tryd.underlying48 hiR zR0 zR1 zR2 rfl (by decide) rfl rfl (owns_gr HD8.out.sto (((Gr.refl _).alloc (.cells #[.int .u32 fr,.int .u32 (fr+mm)] 46)).alloc (.cells #[.int .u32 fr,.int .u32 (fr+mm)] 46))) (.inr ⟨⟨w7.heap.size+1,0,none⟩,1,rfl,rfl,two_cells (x:=.int .u32 fr) (y:=.int .u32 (fr+mm)) (cell_of_row _ _ _ _ _ _ N10) (cell_of_row _ _ _ _ _ _ N10)⟩) (two_one _ _) (by unfold maxLen;omega) (by omega) (by simp;omega) ?_)
     intro v9 w9 hown9 hgrow9 hv9
     obtain ⟨a9,c9,rfl⟩:=owns_word hown9
     obtain ⟨y1,y2,D12,F12⟩:=(HD8.out.of (((Gr.refl _).alloc (.cells #[.int .u32 fr,.int .u32 (fr+mm)] 46)).alloc (.cells #[.int .u32 fr,.int .u32 (fr+mm)] 46))).appS (ss:=r.sto++[(fr,mm)]) hgrow9 (by rw [rgs_snoc,List.length_append,HLo.out];exact hown9) (by simpa using hv9)
     have RB9:w9.heap[w7.heap.size]?=some (.cells #[.int .u32 fr,.int .u32 (fr+mm)] 46 (0,0)):=(hgrow9.block _ (Array.getElem?_eq_some_iff.1 O10).1 (fun e=>by have:=(HD8.out.sto.lt _ e.symm).2;omega)).trans O10
     have RB12:(w9.setCell ⟨(w.heap.size+1+1+1),40,none⟩ (.slice a9 (r.sto.length+1) c9)).heap[w7.heap.size]?=some (.cells #[.int .u32 fr,.int .u32 (fr+mm)] 46 (0,0)):=(heap_setCell_other _ _ _ _ (by show w7.heap.size≠(w.heap.size+1+1+1);omega)).trans RB9
     have r0:(w9.setCell ⟨(w.heap.size+1+1+1),40,none⟩ (.slice a9 (r.sto.length+1) c9)).cell? ⟨w7.heap.size,0,none⟩=some (.int .u32 fr):=cell_of_row _ _ _ _ _ _ RB12
     have r1:(w9.setCell ⟨(w.heap.size+1+1+1),40,none⟩ (.slice a9 (r.sto.length+1) c9)).cell? ⟨w7.heap.size,1,none⟩=some (.int .u32 (fr+mm)):=cell_of_row _ _ _ _ _ _ RB12
     have HF12:Hid (Fk w.heap.size (w.heap.size+1+1+1) wr (w9.setCell ⟨(w.heap.size+1+1+1),40,none⟩ (.slice a9 (r.sto.length+1) c9))):=(HF8.out.trans (Fk.ofGr (((Gr.refl _).alloc (.cells #[.int .u32 fr,.int .u32 (fr+mm)] 46)).alloc (.cells #[.int .u32 fr,.int .u32 (fr+mm)] 46)) (by omega))).trans F12
     have HB12:Hid ((w9.setCell ⟨(w.heap.size+1+1+1),40,none⟩ (.slice a9 (r.sto.length+1) c9)).heap[w.heap.size]?=some (.cells #[.int .u32 bpc,.slice ba cnt bc] 34 (0,0))):=HF12.out.at HB.out (by omega) (by decide) (by decide)
     have HZ12:Hid ((w9.setCell ⟨(w.heap.size+1+1+1),40,none⟩ (.slice a9 (r.sto.length+1) c9)).heap[(w.heap.size+1+1)]?=some (.cells Z 50 (0,0))):=HF12.out.at HZ.out (by omega) (by decide) (by decide)
     have HG12:Hid (Gr w (w9.setCell ⟨(w.heap.size+1+1+1),40,none⟩ (.slice a9 (r.sto.length+1) c9))):=Below.trans HG.out HF12.out.below
     have u35:(w9.setCell ⟨(w.heap.size+1+1+1),40,none⟩ (.slice a9 (r.sto.length+1) c9)).cell? ⟨(w.heap.size+1+1+1),35,none⟩=some (.int .i64 T.h.state):=D12.fld (j:=3) (by omega)
     have u32':(w9.setCell ⟨(w.heap.size+1+1+1),40,none⟩ (.slice a9 (r.sto.length+1) c9)).cell? ⟨(w.heap.size+1+1+1),32,none⟩=some (.int .u32 T.h.pc):=D12.fld (j:=0) (by omega)
     have e0':(w9.setCell ⟨(w.heap.size+1+1+1),40,none⟩ (.slice a9 (r.sto.length+1) c9)).cell? ⟨w.heap.size,0,none⟩=some (.int .u32 bpc):=cell_of_row _ _ _ _ _ _ HB12.out
     have e1':(w9.setCell ⟨(w.heap.size+1+1+1),40,none⟩ (.slice a9 (r.sto.length+1) c9)).cell? ⟨w.heap.size,1,none⟩=some (.slice ba cnt bc):=cell_of_row _ _ _ _ _ _ HB12.out
     have HD9:Hid (Sd (w9.setCell ⟨(w.heap.size+1+1+1),40,none⟩ (.slice a9 (r.sto.length+1) c9)) w.heap.size (w.heap.size+1+1+1) RB a3 ml c3 (.slice a7 (r.out.length+T.out.length) c7) (.slice a9 (r.sto.length+1) c9)):=(by unfold Hid;rw [←HR9.out];exact D12)
     clear D12 F12 RB9 RB12 hown9 hgrow9 hv9 N10 O10 h7
     by_cases q1:fr<((bpc+4*(cnt:Int))%4294967296)
     ·by_cases q2:bpc<fr+mm
      ·by_cases hss:T.h.state=0
       ·by_cases hpp:T.h.pc=(bpc+(4*(k:Int)+4))%4294967296
        ·have HHt:Hid (T.sto.any (hitB bpc (Wd.lo (bpc+4*(cnt:Int))))=true):=by unfold Hid;rw [HHit.out];exact decide_eq_true ⟨q1,q2⟩
         have HRF:Hid (RB=(bst bpc (Wd.lo (bpc+4*(cnt:Int))) steps cnt 0 (mstart h l))):=HStop.out (by unfold bstop;rw [HHt.out];simp)
         have hp2:(T.h.pc == (bpc+(4*(k:Int)+4))%4294967296)=true:=by simpa using hpp
         have HDid:Hid ((w9.setCell ⟨(w.heap.size+1+1+1),40,none⟩ (.slice a9 (r.sto.length+1) c9)).heap[(w.heap.size+1+1+1)]?=some (.cells (gA RB.h (.slice a3 ml c3) (.slice a7 (r.out.length+T.out.length) c7) RB.n (.slice a9 (r.sto.length+1) c9)) 50 (0,0))):=HD9.out.blk
         have HSA:Hid ((gA RB.h (.slice a3 ml c3) (.slice a7 (r.out.length+T.out.length) c7) RB.n (.slice a9 (r.sto.length+1) c9)).size=41):=gA_size HD9.out.ok.h _ _ _ _
         have HONE:Hid ((gA RB.h (.slice a3 ml c3) (.slice a7 (r.out.length+T.out.length) c7) RB.n (.slice a9 (r.sto.length+1) c9)).all (·.oneCell')=true):=HD9.out.ones
         have HDr:Hid (∀cs:Array Value,Dr ((w9.setCell ⟨(w.heap.size+1+1+1),40,none⟩ (.slice a9 (r.sto.length+1) c9)).setRow (w.heap.size+1+1) cs) RB (.slice a3 ml c3) (.slice a7 (r.out.length+T.out.length) c7) (.slice a9 (r.sto.length+1) c9)):=(fun cs=>HD9.out.dr (by omega) (by omega) HZ12.out (fun ad e h0=>(HFar.out ad e h0).2) cs)
         have HEA:Hid (gA RB.h (.slice a3 ml c3) (.slice a7 (r.out.length+T.out.length) c7) RB.n (.slice a9 (r.sto.length+1) c9)=gA (bst bpc (Wd.lo (bpc+4*(cnt:Int))) steps cnt 0 (mstart h l)).h (.slice a3 ml c3) (.slice a7 (r.out.length+T.out.length) c7) (bst bpc (Wd.lo (bpc+4*(cnt:Int))) steps cnt 0 (mstart h l)).n (.slice a9 (r.sto.length+1) c9)):=(by unfold Hid;rw [←HRF.out])
         have HEB:Hid (RB=(bst bpc (Wd.lo (bpc+4*(cnt:Int))) steps cnt 0 (mstart h l))):=HRF.out
         generalize gA RB.h (.slice a3 ml c3) (.slice a7 (r.out.length+T.out.length) c7) RB.n (.slice a9 (r.sto.length+1) c9)=DDD at *
         go_wp2_with (first
          | (refine wpList_load_row rfl 50 (.tmp 9) rfl (w.heap.size+1+1+1) rfl 50 DDD (0,0) _ ?lr1 Tryd.underlying50 rfl (by rw [HSA.out];exact iDidA) ?_;(case lr1=>exact HDid.out))
          | (refine wpList_store_row rfl 50 (.tmp 8) _ rfl (w.heap.size+1+1) DDD rfl rfl 50 Z ?sr1 (by rw [HSA.out];exact iDidA) (by rw [HSA.out];exact HZs.out) HONE.out ?_;(case sr1=>exact HZ12.out)))
         refine bodyPost_ret (v:=.agg DDD) (results_cell_row Tryd.results20 _ _ _ _ _ (0,0) _ rfl (setRow_heap _ _ _ _ _ (0,0) HZ12.out) Tryd.underlying50 rfl (by rw [HSA.out];exact iDidA)) rfl ⟨.slice a3 ml c3,(.slice a7 (r.out.length+T.out.length) c7),(.slice a9 (r.sto.length+1) c9),?_,?_,?_⟩
         ·rw [HEA.out]
         ·rw [←HEB.out]
          exact HDr.out _
         ·exact gr_setRow HG12.out (by omega) _
        ·have HRF:Hid (RB=(bst bpc (Wd.lo (bpc+4*(cnt:Int))) steps cnt 0 (mstart h l))):=HStop.out (by unfold bstop;rw [decide_eq_true (show ¬T.h.pc=Wd.lo (bpc+(4*(k:Int)+4)) from hpp)];simp)
         have hp2:(T.h.pc == (bpc+(4*(k:Int)+4))%4294967296)=false:=by simpa using hpp
         have HDid:Hid ((w9.setCell ⟨(w.heap.size+1+1+1),40,none⟩ (.slice a9 (r.sto.length+1) c9)).heap[(w.heap.size+1+1+1)]?=some (.cells (gA RB.h (.slice a3 ml c3) (.slice a7 (r.out.length+T.out.length) c7) RB.n (.slice a9 (r.sto.length+1) c9)) 50 (0,0))):=HD9.out.blk
         have HSA:Hid ((gA RB.h (.slice a3 ml c3) (.slice a7 (r.out.length+T.out.length) c7) RB.n (.slice a9 (r.sto.length+1) c9)).size=41):=gA_size HD9.out.ok.h _ _ _ _
         have HONE:Hid ((gA RB.h (.slice a3 ml c3) (.slice a7 (r.out.length+T.out.length) c7) RB.n (.slice a9 (r.sto.length+1) c9)).all (·.oneCell')=true):=HD9.out.ones
         have HDr:Hid (∀cs:Array Value,Dr ((w9.setCell ⟨(w.heap.size+1+1+1),40,none⟩ (.slice a9 (r.sto.length+1) c9)).setRow (w.heap.size+1+1) cs) RB (.slice a3 ml c3) (.slice a7 (r.out.length+T.out.length) c7) (.slice a9 (r.sto.length+1) c9)):=(fun cs=>HD9.out.dr (by omega) (by omega) HZ12.out (fun ad e h0=>(HFar.out ad e h0).2) cs)
         have HEA:Hid (gA RB.h (.slice a3 ml c3) (.slice a7 (r.out.length+T.out.length) c7) RB.n (.slice a9 (r.sto.length+1) c9)=gA (bst bpc (Wd.lo (bpc+4*(cnt:Int))) steps cnt 0 (mstart h l)).h (.slice a3 ml c3) (.slice a7 (r.out.length+T.out.length) c7) (bst bpc (Wd.lo (bpc+4*(cnt:Int))) steps cnt 0 (mstart h l)).n (.slice a9 (r.sto.length+1) c9)):=(by unfold Hid;rw [←HRF.out])
         have HEB:Hid (RB=(bst bpc (Wd.lo (bpc+4*(cnt:Int))) steps cnt 0 (mstart h l))):=HRF.out
         generalize gA RB.h (.slice a3 ml c3) (.slice a7 (r.out.length+T.out.length) c7) RB.n (.slice a9 (r.sto.length+1) c9)=DDD at *
         go_wp2_with (first
          | (refine wpList_load_row rfl 50 (.tmp 9) rfl (w.heap.size+1+1+1) rfl 50 DDD (0,0) _ ?lr1 Tryd.underlying50 rfl (by rw [HSA.out];exact iDidA) ?_;(case lr1=>exact HDid.out))
          | (refine wpList_store_row rfl 50 (.tmp 8) _ rfl (w.heap.size+1+1) DDD rfl rfl 50 Z ?sr1 (by rw [HSA.out];exact iDidA) (by rw [HSA.out];exact HZs.out) HONE.out ?_;(case sr1=>exact HZ12.out)))
         refine bodyPost_ret (v:=.agg DDD) (results_cell_row Tryd.results20 _ _ _ _ _ (0,0) _ rfl (setRow_heap _ _ _ _ _ (0,0) HZ12.out) Tryd.underlying50 rfl (by rw [HSA.out];exact iDidA)) rfl ⟨.slice a3 ml c3,(.slice a7 (r.out.length+T.out.length) c7),(.slice a9 (r.sto.length+1) c9),?_,?_,?_⟩
         ·rw [HEA.out]
         ·rw [←HEB.out]
          exact HDr.out _
         ·exact gr_setRow HG12.out (by omega) _
       ·have HRF:Hid (RB=(bst bpc (Wd.lo (bpc+4*(cnt:Int))) steps cnt 0 (mstart h l))):=HStop.out (by unfold bstop;rw [decide_eq_true hss];rfl)
        have hs2:(T.h.state == 0)=false:=by simpa using hss
        have HDid:Hid ((w9.setCell ⟨(w.heap.size+1+1+1),40,none⟩ (.slice a9 (r.sto.length+1) c9)).heap[(w.heap.size+1+1+1)]?=some (.cells (gA RB.h (.slice a3 ml c3) (.slice a7 (r.out.length+T.out.length) c7) RB.n (.slice a9 (r.sto.length+1) c9)) 50 (0,0))):=HD9.out.blk
        have HSA:Hid ((gA RB.h (.slice a3 ml c3) (.slice a7 (r.out.length+T.out.length) c7) RB.n (.slice a9 (r.sto.length+1) c9)).size=41):=gA_size HD9.out.ok.h _ _ _ _
        have HONE:Hid ((gA RB.h (.slice a3 ml c3) (.slice a7 (r.out.length+T.out.length) c7) RB.n (.slice a9 (r.sto.length+1) c9)).all (·.oneCell')=true):=HD9.out.ones
        have HDr:Hid (∀cs:Array Value,Dr ((w9.setCell ⟨(w.heap.size+1+1+1),40,none⟩ (.slice a9 (r.sto.length+1) c9)).setRow (w.heap.size+1+1) cs) RB (.slice a3 ml c3) (.slice a7 (r.out.length+T.out.length) c7) (.slice a9 (r.sto.length+1) c9)):=(fun cs=>HD9.out.dr (by omega) (by omega) HZ12.out (fun ad e h0=>(HFar.out ad e h0).2) cs)
        have HEA:Hid (gA RB.h (.slice a3 ml c3) (.slice a7 (r.out.length+T.out.length) c7) RB.n (.slice a9 (r.sto.length+1) c9)=gA (bst bpc (Wd.lo (bpc+4*(cnt:Int))) steps cnt 0 (mstart h l)).h (.slice a3 ml c3) (.slice a7 (r.out.length+T.out.length) c7) (bst bpc (Wd.lo (bpc+4*(cnt:Int))) steps cnt 0 (mstart h l)).n (.slice a9 (r.sto.length+1) c9)):=(by unfold Hid;rw [←HRF.out])
        have HEB:Hid (RB=(bst bpc (Wd.lo (bpc+4*(cnt:Int))) steps cnt 0 (mstart h l))):=HRF.out
        generalize gA RB.h (.slice a3 ml c3) (.slice a7 (r.out.length+T.out.length) c7) RB.n (.slice a9 (r.sto.length+1) c9)=DDD at *
        go_wp2_with (first
         | (refine wpList_load_row rfl 50 (.tmp 9) rfl (w.heap.size+1+1+1) rfl 50 DDD (0,0) _ ?lr1 Tryd.underlying50 rfl (by rw [HSA.out];exact iDidA) ?_;(case lr1=>exact HDid.out))
         | (refine wpList_store_row rfl 50 (.tmp 8) _ rfl (w.heap.size+1+1) DDD rfl rfl 50 Z ?sr1 (by rw [HSA.out];exact iDidA) (by rw [HSA.out];exact HZs.out) HONE.out ?_;(case sr1=>exact HZ12.out)))
        refine bodyPost_ret (v:=.agg DDD) (results_cell_row Tryd.results20 _ _ _ _ _ (0,0) _ rfl (setRow_heap _ _ _ _ _ (0,0) HZ12.out) Tryd.underlying50 rfl (by rw [HSA.out];exact iDidA)) rfl ⟨.slice a3 ml c3,(.slice a7 (r.out.length+T.out.length) c7),(.slice a9 (r.sto.length+1) c9),?_,?_,?_⟩
        ·rw [HEA.out]
        ·rw [←HEB.out]
         exact HDr.out _
        ·exact gr_setRow HG12.out (by omega) _
      ·by_cases hss:T.h.state=0
       ·by_cases hpp:T.h.pc=(bpc+(4*(k:Int)+4))%4294967296
        ·have HHt:Hid (T.sto.any (hitB bpc (Wd.lo (bpc+4*(cnt:Int))))=false):=by unfold Hid;rw [HHit.out];exact decide_eq_false (fun h=>q2 h.2)
         have HON2:Hid _:=HOn.out (by unfold bstop;rw [HHt.out,decide_eq_false (by simp [hss]),decide_eq_false (fun h=>h hpp)];rfl)
         have HSTT:Hid (RB.h.state=0):=by unfold Hid;rw [HB1r.out];exact hss
         have hp2:(T.h.pc == (bpc+(4*(k:Int)+4))%4294967296)=true:=by simpa using hpp
         go_wp2
         go_roundw
         case rel=>exact ⟨k+1,RB,a3,c3,(.slice a7 (r.out.length+T.out.length) c7),(.slice a9 (r.sto.length+1) c9),by omega,by go_num,HON2.out,HSTT.out,HBN.out,HBO.out,HBS.out,fun ad e h0=>(HFar.out ad e h0).2,HD9.out,HB12.out,HZ12.out,HG12.out⟩
         case measure=>simp [intOf];omega
        ·have HRF:Hid (RB=(bst bpc (Wd.lo (bpc+4*(cnt:Int))) steps cnt 0 (mstart h l))):=HStop.out (by unfold bstop;rw [decide_eq_true (show ¬T.h.pc=Wd.lo (bpc+(4*(k:Int)+4)) from hpp)];simp)
         have hp2:(T.h.pc == (bpc+(4*(k:Int)+4))%4294967296)=false:=by simpa using hpp
         have HDid:Hid ((w9.setCell ⟨(w.heap.size+1+1+1),40,none⟩ (.slice a9 (r.sto.length+1) c9)).heap[(w.heap.size+1+1+1)]?=some (.cells (gA RB.h (.slice a3 ml c3) (.slice a7 (r.out.length+T.out.length) c7) RB.n (.slice a9 (r.sto.length+1) c9)) 50 (0,0))):=HD9.out.blk
         have HSA:Hid ((gA RB.h (.slice a3 ml c3) (.slice a7 (r.out.length+T.out.length) c7) RB.n (.slice a9 (r.sto.length+1) c9)).size=41):=gA_size HD9.out.ok.h _ _ _ _
         have HONE:Hid ((gA RB.h (.slice a3 ml c3) (.slice a7 (r.out.length+T.out.length) c7) RB.n (.slice a9 (r.sto.length+1) c9)).all (·.oneCell')=true):=HD9.out.ones
         have HDr:Hid (∀cs:Array Value,Dr ((w9.setCell ⟨(w.heap.size+1+1+1),40,none⟩ (.slice a9 (r.sto.length+1) c9)).setRow (w.heap.size+1+1) cs) RB (.slice a3 ml c3) (.slice a7 (r.out.length+T.out.length) c7) (.slice a9 (r.sto.length+1) c9)):=(fun cs=>HD9.out.dr (by omega) (by omega) HZ12.out (fun ad e h0=>(HFar.out ad e h0).2) cs)
         have HEA:Hid (gA RB.h (.slice a3 ml c3) (.slice a7 (r.out.length+T.out.length) c7) RB.n (.slice a9 (r.sto.length+1) c9)=gA (bst bpc (Wd.lo (bpc+4*(cnt:Int))) steps cnt 0 (mstart h l)).h (.slice a3 ml c3) (.slice a7 (r.out.length+T.out.length) c7) (bst bpc (Wd.lo (bpc+4*(cnt:Int))) steps cnt 0 (mstart h l)).n (.slice a9 (r.sto.length+1) c9)):=(by unfold Hid;rw [←HRF.out])
         have HEB:Hid (RB=(bst bpc (Wd.lo (bpc+4*(cnt:Int))) steps cnt 0 (mstart h l))):=HRF.out
         generalize gA RB.h (.slice a3 ml c3) (.slice a7 (r.out.length+T.out.length) c7) RB.n (.slice a9 (r.sto.length+1) c9)=DDD at *
         go_wp2_with (first
          | (refine wpList_load_row rfl 50 (.tmp 9) rfl (w.heap.size+1+1+1) rfl 50 DDD (0,0) _ ?lr1 Tryd.underlying50 rfl (by rw [HSA.out];exact iDidA) ?_;(case lr1=>exact HDid.out))
          | (refine wpList_store_row rfl 50 (.tmp 8) _ rfl (w.heap.size+1+1) DDD rfl rfl 50 Z ?sr1 (by rw [HSA.out];exact iDidA) (by rw [HSA.out];exact HZs.out) HONE.out ?_;(case sr1=>exact HZ12.out)))
         refine bodyPost_ret (v:=.agg DDD) (results_cell_row Tryd.results20 _ _ _ _ _ (0,0) _ rfl (setRow_heap _ _ _ _ _ (0,0) HZ12.out) Tryd.underlying50 rfl (by rw [HSA.out];exact iDidA)) rfl ⟨.slice a3 ml c3,(.slice a7 (r.out.length+T.out.length) c7),(.slice a9 (r.sto.length+1) c9),?_,?_,?_⟩
         ·rw [HEA.out]
         ·rw [←HEB.out]
          exact HDr.out _
         ·exact gr_setRow HG12.out (by omega) _
       ·have HRF:Hid (RB=(bst bpc (Wd.lo (bpc+4*(cnt:Int))) steps cnt 0 (mstart h l))):=HStop.out (by unfold bstop;rw [decide_eq_true hss];rfl)
        have hs2:(T.h.state == 0)=false:=by simpa using hss
        have HDid:Hid ((w9.setCell ⟨(w.heap.size+1+1+1),40,none⟩ (.slice a9 (r.sto.length+1) c9)).heap[(w.heap.size+1+1+1)]?=some (.cells (gA RB.h (.slice a3 ml c3) (.slice a7 (r.out.length+T.out.length) c7) RB.n (.slice a9 (r.sto.length+1) c9)) 50 (0,0))):=HD9.out.blk
        have HSA:Hid ((gA RB.h (.slice a3 ml c3) (.slice a7 (r.out.length+T.out.length) c7) RB.n (.slice a9 (r.sto.length+1) c9)).size=41):=gA_size HD9.out.ok.h _ _ _ _
        have HONE:Hid ((gA RB.h (.slice a3 ml c3) (.slice a7 (r.out.length+T.out.length) c7) RB.n (.slice a9 (r.sto.length+1) c9)).all (·.oneCell')=true):=HD9.out.ones
        have HDr:Hid (∀cs:Array Value,Dr ((w9.setCell ⟨(w.heap.size+1+1+1),40,none⟩ (.slice a9 (r.sto.length+1) c9)).setRow (w.heap.size+1+1) cs) RB (.slice a3 ml c3) (.slice a7 (r.out.length+T.out.length) c7) (.slice a9 (r.sto.length+1) c9)):=(fun cs=>HD9.out.dr (by omega) (by omega) HZ12.out (fun ad e h0=>(HFar.out ad e h0).2) cs)
        have HEA:Hid (gA RB.h (.slice a3 ml c3) (.slice a7 (r.out.length+T.out.length) c7) RB.n (.slice a9 (r.sto.length+1) c9)=gA (bst bpc (Wd.lo (bpc+4*(cnt:Int))) steps cnt 0 (mstart h l)).h (.slice a3 ml c3) (.slice a7 (r.out.length+T.out.length) c7) (bst bpc (Wd.lo (bpc+4*(cnt:Int))) steps cnt 0 (mstart h l)).n (.slice a9 (r.sto.length+1) c9)):=(by unfold Hid;rw [←HRF.out])
        have HEB:Hid (RB=(bst bpc (Wd.lo (bpc+4*(cnt:Int))) steps cnt 0 (mstart h l))):=HRF.out
        generalize gA RB.h (.slice a3 ml c3) (.slice a7 (r.out.length+T.out.length) c7) RB.n (.slice a9 (r.sto.length+1) c9)=DDD at *
        go_wp2_with (first
         | (refine wpList_load_row rfl 50 (.tmp 9) rfl (w.heap.size+1+1+1) rfl 50 DDD (0,0) _ ?lr1 Tryd.underlying50 rfl (by rw [HSA.out];exact iDidA) ?_;(case lr1=>exact HDid.out))
         | (refine wpList_store_row rfl 50 (.tmp 8) _ rfl (w.heap.size+1+1) DDD rfl rfl 50 Z ?sr1 (by rw [HSA.out];exact iDidA) (by rw [HSA.out];exact HZs.out) HONE.out ?_;(case sr1=>exact HZ12.out)))
        refine bodyPost_ret (v:=.agg DDD) (results_cell_row Tryd.results20 _ _ _ _ _ (0,0) _ rfl (setRow_heap _ _ _ _ _ (0,0) HZ12.out) Tryd.underlying50 rfl (by rw [HSA.out];exact iDidA)) rfl ⟨.slice a3 ml c3,(.slice a7 (r.out.length+T.out.length) c7),(.slice a9 (r.sto.length+1) c9),?_,?_,?_⟩
        ·rw [HEA.out]
        ·rw [←HEB.out]
         exact HDr.out _
        ·exact gr_setRow HG12.out (by omega) _
     ·by_cases hss:T.h.state=0
      ·by_cases hpp:T.h.pc=(bpc+(4*(k:Int)+4))%4294967296
       ·have HHt:Hid (T.sto.any (hitB bpc (Wd.lo (bpc+4*(cnt:Int))))=false):=by unfold Hid;rw [HHit.out];exact decide_eq_false (fun h=>q1 h.1)
        have HON2:Hid _:=HOn.out (by unfold bstop;rw [HHt.out,decide_eq_false (by simp [hss]),decide_eq_false (fun h=>h hpp)];rfl)
        have HSTT:Hid (RB.h.state=0):=by unfold Hid;rw [HB1r.out];exact hss
        have hp2:(T.h.pc == (bpc+(4*(k:Int)+4))%4294967296)=true:=by simpa using hpp
        go_wp2
        go_roundw
        case rel=>exact ⟨k+1,RB,a3,c3,(.slice a7 (r.out.length+T.out.length) c7),(.slice a9 (r.sto.length+1) c9),by omega,by go_num,HON2.out,HSTT.out,HBN.out,HBO.out,HBS.out,fun ad e h0=>(HFar.out ad e h0).2,HD9.out,HB12.out,HZ12.out,HG12.out⟩
        case measure=>simp [intOf];omega
       ·have HRF:Hid (RB=(bst bpc (Wd.lo (bpc+4*(cnt:Int))) steps cnt 0 (mstart h l))):=HStop.out (by unfold bstop;rw [decide_eq_true (show ¬T.h.pc=Wd.lo (bpc+(4*(k:Int)+4)) from hpp)];simp)
        have hp2:(T.h.pc == (bpc+(4*(k:Int)+4))%4294967296)=false:=by simpa using hpp
        have HDid:Hid ((w9.setCell ⟨(w.heap.size+1+1+1),40,none⟩ (.slice a9 (r.sto.length+1) c9)).heap[(w.heap.size+1+1+1)]?=some (.cells (gA RB.h (.slice a3 ml c3) (.slice a7 (r.out.length+T.out.length) c7) RB.n (.slice a9 (r.sto.length+1) c9)) 50 (0,0))):=HD9.out.blk
        have HSA:Hid ((gA RB.h (.slice a3 ml c3) (.slice a7 (r.out.length+T.out.length) c7) RB.n (.slice a9 (r.sto.length+1) c9)).size=41):=gA_size HD9.out.ok.h _ _ _ _
        have HONE:Hid ((gA RB.h (.slice a3 ml c3) (.slice a7 (r.out.length+T.out.length) c7) RB.n (.slice a9 (r.sto.length+1) c9)).all (·.oneCell')=true):=HD9.out.ones
        have HDr:Hid (∀cs:Array Value,Dr ((w9.setCell ⟨(w.heap.size+1+1+1),40,none⟩ (.slice a9 (r.sto.length+1) c9)).setRow (w.heap.size+1+1) cs) RB (.slice a3 ml c3) (.slice a7 (r.out.length+T.out.length) c7) (.slice a9 (r.sto.length+1) c9)):=(fun cs=>HD9.out.dr (by omega) (by omega) HZ12.out (fun ad e h0=>(HFar.out ad e h0).2) cs)
        have HEA:Hid (gA RB.h (.slice a3 ml c3) (.slice a7 (r.out.length+T.out.length) c7) RB.n (.slice a9 (r.sto.length+1) c9)=gA (bst bpc (Wd.lo (bpc+4*(cnt:Int))) steps cnt 0 (mstart h l)).h (.slice a3 ml c3) (.slice a7 (r.out.length+T.out.length) c7) (bst bpc (Wd.lo (bpc+4*(cnt:Int))) steps cnt 0 (mstart h l)).n (.slice a9 (r.sto.length+1) c9)):=(by unfold Hid;rw [←HRF.out])
        have HEB:Hid (RB=(bst bpc (Wd.lo (bpc+4*(cnt:Int))) steps cnt 0 (mstart h l))):=HRF.out
        generalize gA RB.h (.slice a3 ml c3) (.slice a7 (r.out.length+T.out.length) c7) RB.n (.slice a9 (r.sto.length+1) c9)=DDD at *
        go_wp2_with (first
         | (refine wpList_load_row rfl 50 (.tmp 9) rfl (w.heap.size+1+1+1) rfl 50 DDD (0,0) _ ?lr1 Tryd.underlying50 rfl (by rw [HSA.out];exact iDidA) ?_;(case lr1=>exact HDid.out))
         | (refine wpList_store_row rfl 50 (.tmp 8) _ rfl (w.heap.size+1+1) DDD rfl rfl 50 Z ?sr1 (by rw [HSA.out];exact iDidA) (by rw [HSA.out];exact HZs.out) HONE.out ?_;(case sr1=>exact HZ12.out)))
        refine bodyPost_ret (v:=.agg DDD) (results_cell_row Tryd.results20 _ _ _ _ _ (0,0) _ rfl (setRow_heap _ _ _ _ _ (0,0) HZ12.out) Tryd.underlying50 rfl (by rw [HSA.out];exact iDidA)) rfl ⟨.slice a3 ml c3,(.slice a7 (r.out.length+T.out.length) c7),(.slice a9 (r.sto.length+1) c9),?_,?_,?_⟩
        ·rw [HEA.out]
        ·rw [←HEB.out]
         exact HDr.out _
        ·exact gr_setRow HG12.out (by omega) _
      ·have HRF:Hid (RB=(bst bpc (Wd.lo (bpc+4*(cnt:Int))) steps cnt 0 (mstart h l))):=HStop.out (by unfold bstop;rw [decide_eq_true hss];rfl)
       have hs2:(T.h.state == 0)=false:=by simpa using hss
       have HDid:Hid ((w9.setCell ⟨(w.heap.size+1+1+1),40,none⟩ (.slice a9 (r.sto.length+1) c9)).heap[(w.heap.size+1+1+1)]?=some (.cells (gA RB.h (.slice a3 ml c3) (.slice a7 (r.out.length+T.out.length) c7) RB.n (.slice a9 (r.sto.length+1) c9)) 50 (0,0))):=HD9.out.blk
       have HSA:Hid ((gA RB.h (.slice a3 ml c3) (.slice a7 (r.out.length+T.out.length) c7) RB.n (.slice a9 (r.sto.length+1) c9)).size=41):=gA_size HD9.out.ok.h _ _ _ _
       have HONE:Hid ((gA RB.h (.slice a3 ml c3) (.slice a7 (r.out.length+T.out.length) c7) RB.n (.slice a9 (r.sto.length+1) c9)).all (·.oneCell')=true):=HD9.out.ones
       have HDr:Hid (∀cs:Array Value,Dr ((w9.setCell ⟨(w.heap.size+1+1+1),40,none⟩ (.slice a9 (r.sto.length+1) c9)).setRow (w.heap.size+1+1) cs) RB (.slice a3 ml c3) (.slice a7 (r.out.length+T.out.length) c7) (.slice a9 (r.sto.length+1) c9)):=(fun cs=>HD9.out.dr (by omega) (by omega) HZ12.out (fun ad e h0=>(HFar.out ad e h0).2) cs)
       have HEA:Hid (gA RB.h (.slice a3 ml c3) (.slice a7 (r.out.length+T.out.length) c7) RB.n (.slice a9 (r.sto.length+1) c9)=gA (bst bpc (Wd.lo (bpc+4*(cnt:Int))) steps cnt 0 (mstart h l)).h (.slice a3 ml c3) (.slice a7 (r.out.length+T.out.length) c7) (bst bpc (Wd.lo (bpc+4*(cnt:Int))) steps cnt 0 (mstart h l)).n (.slice a9 (r.sto.length+1) c9)):=(by unfold Hid;rw [←HRF.out])
       have HEB:Hid (RB=(bst bpc (Wd.lo (bpc+4*(cnt:Int))) steps cnt 0 (mstart h l))):=HRF.out
       generalize gA RB.h (.slice a3 ml c3) (.slice a7 (r.out.length+T.out.length) c7) RB.n (.slice a9 (r.sto.length+1) c9)=DDD at *
       go_wp2_with (first
        | (refine wpList_load_row rfl 50 (.tmp 9) rfl (w.heap.size+1+1+1) rfl 50 DDD (0,0) _ ?lr1 Tryd.underlying50 rfl (by rw [HSA.out];exact iDidA) ?_;(case lr1=>exact HDid.out))
        | (refine wpList_store_row rfl 50 (.tmp 8) _ rfl (w.heap.size+1+1) DDD rfl rfl 50 Z ?sr1 (by rw [HSA.out];exact iDidA) (by rw [HSA.out];exact HZs.out) HONE.out ?_;(case sr1=>exact HZ12.out)))
       refine bodyPost_ret (v:=.agg DDD) (results_cell_row Tryd.results20 _ _ _ _ _ (0,0) _ rfl (setRow_heap _ _ _ _ _ (0,0) HZ12.out) Tryd.underlying50 rfl (by rw [HSA.out];exact iDidA)) rfl ⟨.slice a3 ml c3,(.slice a7 (r.out.length+T.out.length) c7),(.slice a9 (r.sto.length+1) c9),?_,?_,?_⟩
       ·rw [HEA.out]
       ·rw [←HEB.out]
        exact HDr.out _
       ·exact gr_setRow HG12.out (by omega) _
   ·have HRF:Hid (r=(bst bpc (Wd.lo (bpc+4*(cnt:Int))) steps cnt 0 (mstart h l))):=by
     have e:=HEq.out
     rw [show cnt-k=(cnt-(k+1))+1 by omega,bst,if_neg hns] at e
     exact e
    clear D HEq
    have HDid:Hid (wr.heap[(w.heap.size+1+1+1)]?=some (.cells (gA r.h (.slice a ml c) O r.n S) 50 (0,0))):=HD.out.blk
    have HSA:Hid ((gA r.h (.slice a ml c) O r.n S).size=41):=gA_size HD.out.ok.h _ _ _ _
    have HONE:Hid ((gA r.h (.slice a ml c) O r.n S).all (·.oneCell')=true):=HD.out.ones
    have HDr:Hid (∀cs:Array Value,Dr (wr.setRow (w.heap.size+1+1) cs) r (.slice a ml c) O S):=(fun cs=>HD.out.dr (by omega) (by omega) HZ.out (HFr.out) cs)
    have HEA:Hid (gA r.h (.slice a ml c) O r.n S=gA (bst bpc (Wd.lo (bpc+4*(cnt:Int))) steps cnt 0 (mstart h l)).h (.slice a ml c) O (bst bpc (Wd.lo (bpc+4*(cnt:Int))) steps cnt 0 (mstart h l)).n S):=(by unfold Hid;rw [←HRF.out])
    have HEB:Hid (r=(bst bpc (Wd.lo (bpc+4*(cnt:Int))) steps cnt 0 (mstart h l))):=HRF.out
    generalize gA r.h (.slice a ml c) O r.n S=DDD at *
    go_wp2_with (first
     | (refine wpList_load_row rfl 50 (.tmp 9) rfl (w.heap.size+1+1+1) rfl 50 DDD (0,0) _ ?lr1 Tryd.underlying50 rfl (by rw [HSA.out];exact iDidA) ?_;(case lr1=>exact HDid.out))
     | (refine wpList_store_row rfl 50 (.tmp 8) _ rfl (w.heap.size+1+1) DDD rfl rfl 50 Z ?sr1 (by rw [HSA.out];exact iDidA) (by rw [HSA.out];exact HZs.out) HONE.out ?_;(case sr1=>exact HZ.out)))
    refine bodyPost_ret (v:=.agg DDD) (results_cell_row Tryd.results20 _ _ _ _ _ (0,0) _ rfl (setRow_heap _ _ _ _ _ (0,0) HZ.out) Tryd.underlying50 rfl (by rw [HSA.out];exact iDidA)) rfl ⟨.slice a ml c,O,S,?_,?_,?_⟩
    ·rw [HEA.out]
    ·rw [←HEB.out]
     exact HDr.out _
    ·exact gr_setRow HG.out (by omega) _
  ·have HRF:Hid (r=(bst bpc (Wd.lo (bpc+4*(cnt:Int))) steps cnt 0 (mstart h l))):=by
    have e:=HEq.out
    rw [show cnt-k=0 by omega,bst] at e
    exact e
   clear D HEq
   have HDid:Hid (wr.heap[(w.heap.size+1+1+1)]?=some (.cells (gA r.h (.slice a ml c) O r.n S) 50 (0,0))):=HD.out.blk
   have HSA:Hid ((gA r.h (.slice a ml c) O r.n S).size=41):=gA_size HD.out.ok.h _ _ _ _
   have HONE:Hid ((gA r.h (.slice a ml c) O r.n S).all (·.oneCell')=true):=HD.out.ones
   have HDr:Hid (∀cs:Array Value,Dr (wr.setRow (w.heap.size+1+1) cs) r (.slice a ml c) O S):=(fun cs=>HD.out.dr (by omega) (by omega) HZ.out (HFr.out) cs)
   have HEA:Hid (gA r.h (.slice a ml c) O r.n S=gA (bst bpc (Wd.lo (bpc+4*(cnt:Int))) steps cnt 0 (mstart h l)).h (.slice a ml c) O (bst bpc (Wd.lo (bpc+4*(cnt:Int))) steps cnt 0 (mstart h l)).n S):=(by unfold Hid;rw [←HRF.out])
   have HEB:Hid (r=(bst bpc (Wd.lo (bpc+4*(cnt:Int))) steps cnt 0 (mstart h l))):=HRF.out
   generalize gA r.h (.slice a ml c) O r.n S=DDD at *
   go_wp2_with (first
    | (refine wpList_load_row rfl 50 (.tmp 9) rfl (w.heap.size+1+1+1) rfl 50 DDD (0,0) _ ?lr1 Tryd.underlying50 rfl (by rw [HSA.out];exact iDidA) ?_;(case lr1=>exact HDid.out))
    | (refine wpList_store_row rfl 50 (.tmp 8) _ rfl (w.heap.size+1+1) DDD rfl rfl 50 Z ?sr1 (by rw [HSA.out];exact iDidA) (by rw [HSA.out];exact HZs.out) HONE.out ?_;(case sr1=>exact HZ.out)))
   refine bodyPost_ret (v:=.agg DDD) (results_cell_row Tryd.results20 _ _ _ _ _ (0,0) _ rfl (setRow_heap _ _ _ _ _ (0,0) HZ.out) Tryd.underlying50 rfl (by rw [HSA.out];exact iDidA)) rfl ⟨.slice a ml c,O,S,?_,?_,?_⟩
   ·rw [HEA.out]
   ·rw [←HEB.out]
    exact HDr.out _
   ·exact gr_setRow HG.out (by omega) _
end Go.Proofs.YtkdghgiajifbdaaDoor.Ts
