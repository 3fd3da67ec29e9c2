/-
  Ref5b, Mk, Ref5c, Ref4c: texts of ours that lie in one file.
-/
import Derived.Test.YtchllaeembmioaaGreatDoorK32
import Derived.Test.YtchllaeembmioaaGreatDoorK15
set_option linter.unusedVariables false
set_option linter.unusedSimpArgs false
set_option maxHeartbeats 8000000
set_option maxRecDepth 100000
namespace Go.Proofs.YtchllaeembmioaaGreatDoor.Mc
open Go.ChangeShapes Go.WideShapes Go.ChangeAt Go.RowKit Mm Hh Hc

theorem neq_hart {h:Hv}(o:h.Ok)(w:World):(binOp .neq 51 (.agg (hA h)) (.agg (hA h))).run Tryz.prog w=.ok (.bool false) w:=by
 have e:=eql_hart o w
 have e1:binOp .eql 51 (.agg (hA h)) (.agg (hA h))=(do pure (.bool (←Op.equal 51 (.agg (hA h)) (.agg (hA h))))):=rfl
 have e2:binOp .neq 51 (.agg (hA h)) (.agg (hA h))=(do pure (.bool (!(←Op.equal 51 (.agg (hA h)) (.agg (hA h)))))):=rfl
 rw [e1,Sem.run_bind] at e
 rw [e2,Sem.run_bind]
 generalize (Op.equal 51 (.agg (hA h)) (.agg (hA h))).run Tryz.prog w=r at e ⊢
 cases r with
 | ok v w'=>
  simp only [Result.andThen_ok,Sem.run_pure,Result.ok.injEq,Value.bool.injEq] at e ⊢
  obtain ⟨rfl,rfl⟩:=e
  exact ⟨rfl,rfl⟩
 | _=>simp [Result.andThen] at e
theorem yieldsIf_neq {P:Program}{ops:Array Oper}{S:World→Prop}{o:Oper}{a:Act}(hw:Region.wanted o (yielded ops a.tmps)=true)(t t':TypeId)(x y:Operand)(ho:o.op=.binOp .neq t x y t')(A B:Array Value)(hx:a.eval x=.agg A)(hy:a.eval y=.agg B)(hg:P.eqGuardType P.depth t=false)
  {v:Value}(h:∀w,(binOp .neq t (.agg A) (.agg B)).run P w=.ok v w):YieldsIf P ops S o v a:=
 .inl ⟨hw,fun w _=>by
  unfold execOp
  simp only [ho,hx,hy,Sem.run_bind,run_eqGuard_agg w _ _ _ _ _ _ hg,h,Result.andThen_ok]
  rfl⟩
def Shw (w:World) (v:Value) (c mn:Nat) (S:Sh):Prop:=∃ma mc ha hc oa oc,v=.agg #[.slice ma mn mc,.slice ha c hc,.slice oa S.out.length oc,.int .i64 S.steps]∧Mem w ma mn S.m∧Hs w ha c S.hs∧Wm w oa S.out.length S.out
theorem Shn.w {w:World}{v:Value}{c mn:Nat}{S:Sh}(h:Shn w v c mn S):Shw w v c mn S:=by
 obtain ⟨ma,mc,ha,hc,oa,oc,e,h1,_,h3,h4,_⟩:=h
 exact ⟨ma,mc,ha,hc,oa,oc,e,h1,h3,h4⟩
theorem Shw.of {w w':World}{v:Value}{c mn:Nat}{S:Sh}(h:Shw w v c mn S)(G:Gr w w'):Shw w' v c mn S:=by
 obtain ⟨ma,mc,ha,hc,oa,oc,e,h1,h3,h4⟩:=h
 exact ⟨ma,mc,ha,hc,oa,oc,e,h1.of G,h3.of G,h4.of G⟩
theorem Same_w {w:World}{a b:Value}{c mn:Nat}{S:Sh}(A:Shw w a c mn S)(B:Shw w b c mn S)(ho:S.out.length≤1000000)(hc4:c≤4):
  Calls Tryz.prog 9 #[a,b] w fun e w'=>e=.returned (.bool true)∧Gr w w':=by
 obtain ⟨a1,c1,a2,c2,a3,c3,rfl,A1,A2,A3⟩:=A
 obtain ⟨b1,d1,b2,d2,b3,d3,rfl,B1,B2,B3⟩:=B
 have HBy:Hid (∀W:World,Gr w W→Calls Tryz.prog 20 #[.slice a1 mn c1,.slice b1 mn d1] W fun e w'=>e=.returned (.bool true)∧Gr W w'):=fun W G=>
  (Mr.Bytes_any c1 d1 (A1.of G) (B1.of G)).mono fun e w' ⟨h1,h2⟩=>⟨by rw [h1];simp,by rw [h2];exact Gr.refl _⟩
 have HWo:Hid (∀W:World,Gr w W→Calls Tryz.prog 21 #[.slice a3 S.out.length c3,.slice b3 S.out.length d3] W fun e w'=>e=.returned (.bool true)∧Gr W w'):=fun W G=>Words_same c3 d3 ho (A3.of G) (B3.of G)
 have HA2:Hid (Hs w a2 c S.hs):=A2
 have HB2:Hid (Hs w b2 c S.hs):=B2
 have HL:Hid (S.hs.length=c):=A2.len
 clear A1 A2 A3 B1 B2 B3
 generalize S.out.length=on at *
 generalize S.steps=st at *
 generalize S.hs=hs at *
 have en:((st:Int) != (st:Int))=false:=by simp
 have en2:((c:Int) != (c:Int))=false:=by simp
 go_enter Tryz.func9,Tryz.ntmps9
 go_wp2_with fail
 refine (HBy.out _ (((Gr.refl _).alloc _).alloc _)).mono ?_
 rintro e w1 ⟨rfl,G1⟩
 obtain ⟨hb0,hb1⟩:=two_of G1
 have HX0:Hid (w1.heap[w.heap.size]?=some (.cells #[.slice a1 mn c1,.slice a2 c c2,.slice a3 on c3,.int .i64 st] 32 (0,0))):=hb0
 have HX1:Hid (w1.heap[w.heap.size+1]?=some (.cells #[.slice b1 mn d1,.slice b2 c d2,.slice b3 on d3,.int .i64 st] 32 (0,0))):=hb1
 have HG1:Hid (Gr w w1):=(((Gr.refl _).alloc _).alloc _).trans G1
 have x1:w1.cell? ⟨w.heap.size,1,none⟩=some (.slice a2 c c2):=cell_of_row _ _ _ _ _ _ hb0
 have x2:w1.cell? ⟨w.heap.size,2,none⟩=some (.slice a3 on c3):=cell_of_row _ _ _ _ _ _ hb0
 have x4:w1.cell? ⟨w.heap.size+1,1,none⟩=some (.slice b2 c d2):=cell_of_row _ _ _ _ _ _ hb1
 have x5:w1.cell? ⟨w.heap.size+1,2,none⟩=some (.slice b3 on d3):=cell_of_row _ _ _ _ _ _ hb1
 clear G1 hb0 hb1 HBy
 go_wp2_with fail
 refine (HWo.out _ HG1.out).mono ?_
 rintro e w2 ⟨rfl,G2⟩
 have HG2:Hid (Gr w w2):=HG1.out.trans G2
 have HY0:Hid (w2.heap[w.heap.size]?=some (.cells #[.slice a1 mn c1,.slice a2 c c2,.slice a3 on c3,.int .i64 st] 32 (0,0))):=Hr.heap_of_gr G2 HX0.out
 have HY1:Hid (w2.heap[w.heap.size+1]?=some (.cells #[.slice b1 mn d1,.slice b2 c d2,.slice b3 on d3,.int .i64 st] 32 (0,0))):=Hr.heap_of_gr G2 HX1.out
 have y3:w2.cell? ⟨w.heap.size,3,none⟩=some (.int .i64 st):=cell_of_row _ _ _ _ _ _ HY0.out
 have y7:w2.cell? ⟨w.heap.size+1,3,none⟩=some (.int .i64 st):=cell_of_row _ _ _ _ _ _ HY1.out
 clear G2 x1 x2 x4 x5 HX0 HX1 HWo HG1
 go_wp2_with fail
 go_loopw [5] (fun i wr=>∃k:Nat,k≤c∧i=.int .i64 k∧Gr w2 wr) (fun i _=>c-(intOf i).toNat)
 case atStart=>exact ⟨0,Nat.zero_le _,rfl,Gr.refl _⟩
 case round=>
  obtain ⟨k,hk,rfl,G⟩:=hrel
  have HG:Hid (Gr w2 wr):=G
  have z1:wr.cell? ⟨w.heap.size,1,none⟩=some (.slice a2 c c2):=cell_of_row _ _ _ _ _ _ (Hr.heap_of_gr G HY0.out)
  have z4:wr.cell? ⟨w.heap.size+1,1,none⟩=some (.slice b2 c d2):=cell_of_row _ _ _ _ _ _ (Hr.heap_of_gr G HY1.out)
  clear G y3 y7
  by_cases hlt:k<c
  ·obtain ⟨h,hh⟩:∃h,hs[k]?=some h:=⟨_,List.getElem?_eq_getElem (by rw [HL.out];exact hlt)⟩
   have okh:=HA2.out.ok h (List.mem_of_getElem? hh)
   obtain ⟨p1,o1,rfl,hp1,r1⟩:=HA2.out.spot (by omega)
   obtain ⟨p2,o2,rfl,hp2,r2⟩:=HB2.out.spot (by omega)
   have R1:Hid (wr.rangeAt p1 (o1+k*37) (hL h)):=fun j v hv=>((HG2.out.trans HG.out).cell _ (by exact hp1)).trans (r1 k h hh j v hv)
   have R2:Hid (wr.rangeAt p2 (o2+k*37) (hL h)):=fun j v hv=>((HG2.out.trans HG.out).cell _ (by exact hp2)).trans (r2 k h hh j v hv)
   have HLL:Hid ((hL h).length=37):=hL_len okh
   have HNQ:Hid (∀W:World,(binOp .neq 51 (.agg (hL h).toArray) (.agg (hL h).toArray)).run Tryz.prog W=.ok (.bool false) W):=fun W=>neq_hart okh W
   clear hh okh r1 r2 en en2
   go_wp2_with fail
   refine wp_region_held_drew (S:=fun W=>W.cell? ⟨w.heap.size,1,none⟩=some (.slice (some ⟨p1,o1,none⟩) c c2)∧W.cell? ⟨w.heap.size+1,1,none⟩=some (.slice (some ⟨p2,o2,none⟩) c d2)∧W.rangeAt p1 (o1+k*37) (hL h)∧W.rangeAt p2 (o2+k*37) (hL h)) (by kernel_rfl) ?_ (fun hHeld=>?_)
   ·exact ⟨z1,z4,R1.out,R2.out⟩
   have HS0:Hid _:=hHeld
   clear hHeld
   refine wpAnyH_take (i:=0) (v:=.pointer (some ⟨w.heap.size,0,none⟩)) rfl (by kernel_rfl) (by kernel_rfl) (by kernel_rfl) (fun _ _ _ h=>h) (Or.inl ⟨by rfl,fun W hW=>by obtain ⟨y0,y1,y2,y3⟩:=hW;go_simp⟩) HS0.out ?_
   simp only [List.getElem_toArray,List.getElem_cons_succ,List.getElem_cons_zero,Act.put,List.setIfInBounds_toArray,List.set_cons_zero,List.set_cons_succ]
   refine wpAnyH_take (i:=1) (v:=.pointer (some ⟨w.heap.size,1,none⟩)) rfl (by kernel_rfl) (by kernel_rfl) (by kernel_rfl) (fun _ _ _ h=>h) (Or.inl ⟨by rfl,fun W hW=>by obtain ⟨y0,y1,y2,y3⟩:=hW;go_simp⟩) HS0.out ?_
   simp only [List.getElem_toArray,List.getElem_cons_succ,List.getElem_cons_zero,Act.put,List.setIfInBounds_toArray,List.set_cons_zero,List.set_cons_succ]
   refine wpAnyH_take (i:=2) (v:=.slice (some ⟨p1,o1,none⟩) c c2) rfl (by kernel_rfl) (by kernel_rfl) (by kernel_rfl) (fun _ _ _ h=>h) (Or.inl ⟨by rfl,fun W hW=>by obtain ⟨y0,y1,y2,y3⟩:=hW;go_simp⟩) HS0.out ?_
   simp only [List.getElem_toArray,List.getElem_cons_succ,List.getElem_cons_zero,Act.put,List.setIfInBounds_toArray,List.set_cons_zero,List.set_cons_succ]
   refine wpAnyH_take (i:=3) (v:=.int .i64 k) rfl (by kernel_rfl) (by kernel_rfl) (by kernel_rfl) (fun _ _ _ h=>h) (Or.inl ⟨by rfl,fun W hW=>by obtain ⟨y0,y1,y2,y3⟩:=hW;go_simp⟩) HS0.out ?_
   simp only [List.getElem_toArray,List.getElem_cons_succ,List.getElem_cons_zero,Act.put,List.setIfInBounds_toArray,List.set_cons_zero,List.set_cons_succ]
   refine wpAnyH_take (i:=4) (v:=.pointer (some ⟨p1,o1+k*37,none⟩)) rfl (by kernel_rfl) (by kernel_rfl) (by kernel_rfl) (fun _ _ _ h=>h) (Or.inl ⟨by rfl,fun W hW=>by obtain ⟨y0,y1,y2,y3⟩:=hW;go_simp⟩) HS0.out ?_
   simp only [List.getElem_toArray,List.getElem_cons_succ,List.getElem_cons_zero,Act.put,List.setIfInBounds_toArray,List.set_cons_zero,List.set_cons_succ]
   refine wpAnyH_take (i:=5) (v:=.agg (hL h).toArray) rfl (by kernel_rfl) (by kernel_rfl) (by kernel_rfl) (fun _ _ _ h=>h) ?hy5 HS0.out ?_
   case hy5=>exact yieldsIf_load_mid (by rfl) 51 (.tmp 52) rfl p1 (o1+k*37) (by simp [Act.eval]) (hL h) _ (fun W hW=>hW.2.2.1) Tryz.underlying51 rfl (by rw [HLL.out];exact iH)
   simp only [List.getElem_toArray,List.getElem_cons_succ,List.getElem_cons_zero,Act.put,List.setIfInBounds_toArray,List.set_cons_zero,List.set_cons_succ]
   refine wpAnyH_take (i:=6) (v:=.pointer (some ⟨w.heap.size+1,0,none⟩)) rfl (by kernel_rfl) (by kernel_rfl) (by kernel_rfl) (fun _ _ _ h=>h) (Or.inl ⟨by rfl,fun W hW=>by obtain ⟨y0,y1,y2,y3⟩:=hW;go_simp⟩) HS0.out ?_
   simp only [List.getElem_toArray,List.getElem_cons_succ,List.getElem_cons_zero,Act.put,List.setIfInBounds_toArray,List.set_cons_zero,List.set_cons_succ]
   refine wpAnyH_take (i:=7) (v:=.pointer (some ⟨w.heap.size+1,1,none⟩)) rfl (by kernel_rfl) (by kernel_rfl) (by kernel_rfl) (fun _ _ _ h=>h) (Or.inl ⟨by rfl,fun W hW=>by obtain ⟨y0,y1,y2,y3⟩:=hW;go_simp⟩) HS0.out ?_
   simp only [List.getElem_toArray,List.getElem_cons_succ,List.getElem_cons_zero,Act.put,List.setIfInBounds_toArray,List.set_cons_zero,List.set_cons_succ]
   refine wpAnyH_take (i:=8) (v:=.slice (some ⟨p2,o2,none⟩) c d2) rfl (by kernel_rfl) (by kernel_rfl) (by kernel_rfl) (fun _ _ _ h=>h) (Or.inl ⟨by rfl,fun W hW=>by obtain ⟨y0,y1,y2,y3⟩:=hW;go_simp⟩) HS0.out ?_
   simp only [List.getElem_toArray,List.getElem_cons_succ,List.getElem_cons_zero,Act.put,List.setIfInBounds_toArray,List.set_cons_zero,List.set_cons_succ]
   refine wpAnyH_take (i:=9) (v:=.int .i64 k) rfl (by kernel_rfl) (by kernel_rfl) (by kernel_rfl) (fun _ _ _ h=>h) (Or.inl ⟨by rfl,fun W hW=>by obtain ⟨y0,y1,y2,y3⟩:=hW;go_simp⟩) HS0.out ?_
   simp only [List.getElem_toArray,List.getElem_cons_succ,List.getElem_cons_zero,Act.put,List.setIfInBounds_toArray,List.set_cons_zero,List.set_cons_succ]
   refine wpAnyH_take (i:=10) (v:=.pointer (some ⟨p2,o2+k*37,none⟩)) rfl (by kernel_rfl) (by kernel_rfl) (by kernel_rfl) (fun _ _ _ h=>h) (Or.inl ⟨by rfl,fun W hW=>by obtain ⟨y0,y1,y2,y3⟩:=hW;go_simp⟩) HS0.out ?_
   simp only [List.getElem_toArray,List.getElem_cons_succ,List.getElem_cons_zero,Act.put,List.setIfInBounds_toArray,List.set_cons_zero,List.set_cons_succ]
   refine wpAnyH_take (i:=11) (v:=.agg (hL h).toArray) rfl (by kernel_rfl) (by kernel_rfl) (by kernel_rfl) (fun _ _ _ h=>h) ?hy11 HS0.out ?_
   case hy11=>exact yieldsIf_load_mid (by rfl) 51 (.tmp 58) rfl p2 (o2+k*37) (by simp [Act.eval]) (hL h) _ (fun W hW=>hW.2.2.2) Tryz.underlying51 rfl (by rw [HLL.out];exact iH)
   simp only [List.getElem_toArray,List.getElem_cons_succ,List.getElem_cons_zero,Act.put,List.setIfInBounds_toArray,List.set_cons_zero,List.set_cons_succ]
   refine wpAnyH_take (i:=12) (v:=.bool false) rfl (by kernel_rfl) (by kernel_rfl) (by kernel_rfl) (fun _ _ _ h=>h) ?hneq HS0.out ?_
   case hneq=>exact yieldsIf_neq (by rfl) 51 51 (.tmp 53) (.tmp 59) rfl (hL h).toArray (hL h).toArray (by simp [Act.eval]) (by simp [Act.eval]) (by kernel_rfl) HNQ.out
   simp only [List.getElem_toArray,List.getElem_cons_succ,List.getElem_cons_zero,Act.put,List.setIfInBounds_toArray,List.set_cons_zero,List.set_cons_succ]
   refine wpAnyH_done (by kernel_rfl) ?_ _
   clear HS0 HNQ R1 R2 z1 z4
   go_wp2_with fail
   go_roundw
   case rel=>exact ⟨k+1,by omega,by go_num,Gr.drew HG.out⟩
   case measure=>simp [intOf];omega
  ·go_wp2_with fail
   go_ret
   exact ⟨rfl,HG2.out.trans HG.out⟩
end Go.Proofs.YtchllaeembmioaaGreatDoor.Mc
namespace Go.Proofs.YtchllaeembmioaaGreatDoor.Mc
open Go.ChangeShapes Go.WideShapes Go.ChangeAt Go.RowKit Mm Hh Hc

variable {w : World} {n k r : Nat} {ps : List (Int × Int)} {p : Int × Int} {m : List UInt8} {hs : List Hv}
theorem few_play:∀(sc:List (Nat×Nat)) {s:Sh} {c n t:Nat},Fit s c n→Few s t→(∀p∈sc,p.1<c∧p.2≤400)→Few (play s sc) (t+400*sc.length)
 | [],s,c,n,t,f,w,_=>w
 | p::r,s,c,n,t,f,w,h=>by
  have hp:=h p (by simp)
  have hk:p.1<s.hs.length:=by rw [f.len];exact hp.1
  rw [play_cons]
  have e:=runs_wk hk p.2
  have o:=wk_ok p.2 (w0_ok f hp.1)
  have z:(w0 s p.1).n=0:=rfl
  have w2:Few (runs s p.1 p.2) (t+400):=by rw [e];exact tk_few w o.1 (by omega)
  have:=few_play r (runs_fit hp.1 p.2 f) w2 (fun q hq=>h q (by simp [hq]))
  rw [List.length_cons,show t+400*(r.length+1)=t+400+400*r.length by omega]
  exact this
theorem few_nums (hw:wrong m hs ps=0)(ok:∀h∈hs,h.Ok):Few (play ⟨hs,m,[],0⟩ (nums ps)) 120000∧Fit (play ⟨hs,m,[],0⟩ (nums ps)) hs.length m.length:=by
 obtain ⟨_,_,_,h4,h5,h6⟩:=wrong_ok hw
 have f:Fit ⟨hs,m,[],0⟩ hs.length m.length:=⟨rfl,rfl,fun h hm=>⟨ok h hm,h4 h hm⟩⟩
 have hq:∀p∈nums ps,p.1<hs.length∧p.2≤400:=fun p hp=>by
  obtain ⟨r,hr,rfl⟩:=List.mem_map.1 hp
  have:=h6 r hr
  show r.1.toNat<_∧r.2.toNat≤_
  omega
 have:=few_play (nums ps) (t:=0) f ⟨Nat.le_refl _,Nat.le_refl _⟩ hq
 have hl:(nums ps).length≤300:=by unfold nums;rw [List.length_map];exact h5
 exact ⟨⟨this.1,by have:=this.2;omega⟩,play_fit _ (fun p hp=>(hq p hp).1) f⟩
end Go.Proofs.YtchllaeembmioaaGreatDoor.Mc
namespace Go.Proofs.YtchllaeembmioaaGreatDoor.Mc
open Go.ChangeShapes Go.WideShapes Go.ChangeAt Go.RowKit Mm Hh Hc

theorem rnear_any {x f:Int}{m:Nat}(x0:0≤x)(x1:x<4294967296)(f0:0≤f)(f1:f<4294967296)(hm:m≤4096)(w:World):
  Calls Tryz.prog 23 #[.int .u32 x,.int .u32 f,.int .i64 m] w fun e w'=>e=.returned (.bool (near x f m))∧w'=w:=by
 go_enter Tryz.func23,Tryz.ntmps23
 go_wp2
 go_loop [7] (fun i=>∃k:Nat,k≤m∧i=.int .i64 k∧∀j:Nat,j<k→¬(0≤f+j-x∧f+j-x<4)) (fun i=>m-(intOf i).toNat)
 case atStart=>exact ⟨0,Nat.zero_le _,rfl,fun j hj=>absurd hj (by omega)⟩
 case round=>
  obtain ⟨k,hk,rfl,hno⟩:=hrel
  have HN:Hid (∀j:Nat,j<k→¬(0≤f+j-x∧f+j-x<4)):=hno
  clear hno
  by_cases hlt:k<m
  ·have hc:f+(k:Int)-x<0∨(¬f+(k:Int)-x<0∧4≤f+(k:Int)-x)∨(¬f+(k:Int)-x<0∧¬4≤f+(k:Int)-x):=by omega
   rcases hc with h1|⟨h1,h2⟩|⟨h1,h2⟩
   ·go_wp2
    go_round
    case rel=>exact ⟨k+1,by omega,by go_num,fun j hj=>by
     by_cases e:j=k
     ·subst e;omega
     ·exact HN.out j (by omega)⟩
    case measure=>simp [intOf];omega
   ·go_wp2
    go_round
    case rel=>exact ⟨k+1,by omega,by go_num,fun j hj=>by
     by_cases e:j=k
     ·subst e;omega
     ·exact HN.out j (by omega)⟩
    case measure=>simp [intOf];omega
   ·go_wp2
    go_ret
    exact ⟨Mc.ret_bool (by unfold near;rw [eq_comm,decide_eq_true_eq];omega),rfl⟩
  ·have HE:Hid (near x f m=false):=by
    unfold Hid near
    rw [decide_eq_false_iff_not]
    intro h
    by_cases hxf:f≤x
    ·have:=HN.out (x-f).toNat (by omega)
     omega
    ·have:=HN.out 0 (by omega)
     omega
   go_wp2
   go_ret
   exact ⟨Mc.ret_bool HE.out.symm,rfl⟩
theorem work_any {pa:Option Addr}{pn:Nat}(pc:Nat){ps:List (Int×Int)}{w:World}(P:Ps w pa pn ps)(hp:pn≤300)(hq:∀p∈ps,0≤p.2∧p.2≤400):
  Calls Tryz.prog 7 #[.slice pa pn pc] w fun e w'=>∃z,e=.returned (.int .i64 z)∧Gr w w':=by
 by_cases p0:pn=0
 ·subst p0
  clear P
  go_enter Tryz.func7,Tryz.ntmps7
  go_wp2
  go_loopw [3,4] (fun n i wr=>n=.int .i64 0∧i=.int .i64 0∧wr=w) (fun _ _ _=>0)
  case atStart=>exact ⟨rfl,rfl,rfl⟩
  case round=>
   obtain ⟨rfl,rfl,rfl⟩:=hrel
   go_wp2
   go_ret
   exact ⟨_,rfl,Gr.refl _⟩
 ·obtain ⟨b,o,rfl,hb,hc⟩:=P.spot (by omega)
  have HC:Hid (∀i p,ps[i]?=some p→w.cell? ⟨b,o+i*2,none⟩=some (.int .i64 p.1)∧w.cell? ⟨b,o+i*2+1,none⟩=some (.int .i64 p.2)):=hc
  have HQ:Hid (∀p∈ps,0≤p.2∧p.2≤400):=hq
  have HL:Hid (ps.length=pn):=P.len
  clear hc hq P
  go_enter Tryz.func7,Tryz.ntmps7
  go_wp2
  go_loopw [3,4] (fun n i wr=>∃(k:Nat) (z:Int),k≤pn∧i=.int .i64 k∧n=.int .i64 z∧0≤z∧z≤3400∧Gr w wr) (fun _ i _=>pn-(intOf i).toNat)
  case atStart=>exact ⟨0,0,Nat.zero_le _,rfl,rfl,by omega,by omega,Gr.refl _⟩
  case round=>
   obtain ⟨k,z,hk,rfl,rfl,z0,z1,G⟩:=hrel
   have HG:Hid (Gr w wr):=G
   clear G
   by_cases hlt:k<pn
   ·obtain ⟨p,hp2⟩:∃p,ps[k]?=some p:=⟨_,List.getElem?_eq_getElem (by rw [HL.out];exact hlt)⟩
    obtain ⟨q1,q2⟩:=HQ.out p (List.mem_of_getElem? hp2)
    have c1:wr.cell? ⟨b,o+k*2+1,none⟩=some (.int .i64 p.2):=(HG.out.cell _ (by exact hb)).trans (HC.out k p hp2).2
    clear hp2
    obtain ⟨p1,y⟩:=p
    simp only at *
    by_cases hz:z≤3000
    ·by_cases hy:0<y
     ·have hm:y≤3001:=by omega
      go_wp2
      all_goals
       go_roundw
       case rel=>exact ⟨k+1,_,by omega,by go_num,rfl,by omega,by omega,HG.out⟩
       case measure=>simp [intOf];omega
     ·go_wp2
      go_roundw
      case rel=>exact ⟨k+1,_,by omega,by go_num,rfl,by omega,by omega,HG.out⟩
      case measure=>simp [intOf];omega
    ·go_wp2
     go_ret
     first|exact ⟨_,rfl,HG.out⟩|exact ⟨⟨_,rfl⟩,HG.out⟩|exact HG.out
   ·go_wp2
    go_ret
    first|exact ⟨_,rfl,HG.out⟩|exact ⟨⟨_,rfl⟩,HG.out⟩|exact HG.out
end Go.Proofs.YtchllaeembmioaaGreatDoor.Mc
namespace Go.Proofs.YtchllaeembmioaaGreatDoor.Hr
open Go.ChangeShapes Go.WideShapes Go.ChangeAt Go.RowKit Mm Hh

variable {w w' : World} {I Z D : Array Value} {d : Dv} {ao : Option Addr} {n cap B : Nat} {l : List UInt8}
def iA (op rd r1 r2 im:Int):Array Value:=#[.int .i64 op,.int .i64 rd,.int .i64 r1,.int .i64 r2,.int .i32 im]
theorem three_blocks {A:Array Value}{t u v:Nat}(g:Gr (((w.alloc (.cells A t)).alloc (.cells I u)).alloc (.cells Z v)) w'):
  w'.heap[w.heap.size]?=some (.cells A t (0,0))∧w'.heap[w.heap.size+1]?=some (.cells I u (0,0))∧w'.heap[w.heap.size+1+1]?=some (.cells Z v (0,0)):=by
 refine ⟨heap_of_gr g ?_,heap_of_gr g ?_,heap_of_gr g ?_⟩
 ·rw [heap_alloc_old _ _ (by simp;omega)];exact heap_alloc2_old _ _ _
 ·rw [heap_alloc_old _ _ (by simp)];exact heap_alloc2_new _ _ _
 ·have:=heap_alloc_new ((w.alloc (.cells A t)).alloc (.cells I u)) (.cells Z v)
  simpa using this
theorem first_of_three (w:World)(A I Z:Array Value)(t u v:Nat):(((w.alloc (.cells A t)).alloc (.cells I u)).alloc (.cells Z v)).heap[w.heap.size]?=some (.cells A t (0,0)):=(three_blocks (Gr.refl _)).1
theorem atom_fault (o:d.Ok)(hm:d.m=.slice ao n cap)(op rd r1 r2 im a b:Int)(M:Mem w ao n l)(hn:n≤140737488351232)(h0:0≤a)(h1:a<4294967296)(ok:ldOk l 13 a=false):
  Calls Tryz.prog 42 #[.agg (dA d),.agg (iA op rd r1 r2 im),.int .u32 a,.int .u32 b] w fun e w'=>e=.returned (.tuple #[.agg (dA (d.setH (d.h.trap (if op=46 then 3 else 4)))),.bool false])∧Gr w w':=by
 have L:Hid (∀W:World,Gr w W→Calls Tryz.prog 24 #[.slice ao n cap,.int .i64 13,.int .u32 a] W fun e w'=>e=.returned (.tuple #[.int .u32 (ldV l 13 a),.bool false])∧w'=W):=fun W G=>by
  have:=Mr.Load_any cap 13 a (M.of G) hn h0 h1
  rwa [ok] at this
 have T:Hid (∀(c:Int) (W:World),_):=fun c W=>trap_any o c W
 have SE:Hid (∀c,(dA (d.setH (d.h.trap c))).size=41):=fun c=>dA_size (d:=d.setH _) (o.h.trap c)
 have H1:Hid (∀c,(dA (d.setH (d.h.trap c))).all (·.oneCell')=true):=fun c=>one_dA (o.setH (o.h.trap c))
 have g37:(dA d)[37]?=some (.slice ao n cap):=by rw [dA_fld o.h 0];simp [hm]
 have hs:Hid ((dA d).size=41):=dA_size o.h
 generalize dA d=D0 at *
 generalize ldV l 13 a=y at *
 clear M hm ok o
 unfold iA
 by_cases h46:op=46
 ·rw [if_pos h46]
  have b46:(op == 46)=true:=by simp [h46]
  clear h46
  have S3:=SE.out 3
  have O3:=H1.out 3
  generalize hD:dA (d.setH (d.h.trap 3))=D2 at *
  have T3:Hid (∀W:World,Calls Tryz.prog 34 #[.agg D0,.int .i64 3] W fun e w'=>e=.returned (.agg D2)∧Gr W w'):=fun W=>by rw [←hD];exact T.out 3 W
  have HS:Hid _:=S3
  have HO:Hid _:=O3
  clear SE H1 T S3 O3 hD
  go_enter Tryz.func42,Tryz.ntmps42
  go_wp2_with fail
  refine (L.out _ ((((Gr.refl _).alloc _).alloc _).alloc _)).mono ?_
  rintro e w' ⟨rfl,rfl⟩
  go_wp2_with (refine wpList_load_row rfl 71 _ rfl w.heap.size rfl 71 D0 (0,0) _ ?hb1 Tryz.underlying71 rfl (by rw [hs.out];exact iD) ?_;(case hb1=>exact first_of_three w _ _ _ _ _ _))
  refine (T3.out _).mono ?_
  rintro e w1 ⟨rfl,G1⟩
  have HR:Hid (∃Z:Array Value,Z.size=41∧w1.heap[w.heap.size+1+1]?=some (.cells Z 71 (0,0))):=⟨_,rfl,(three_blocks G1).2.2⟩
  have HG:Hid (Gr w w1):=((((Gr.refl _).alloc _).alloc _).alloc _).trans G1
  obtain ⟨Z,hz,hR⟩:=HR.out
  have HR2:Hid _:=hR
  clear G1 T3 L HR hR
  go_wp2_with (refine wpList_store_row rfl 71 _ _ rfl (w.heap.size+1+1) D2 rfl rfl 71 Z ?hb2 (by rw [HS.out];exact iD) (by rw [HS.out,hz]) HO.out ?_;(case hb2=>exact HR2.out))
  refine bodyPost_ret (v:=.tuple #[.agg D2,.bool false]) (results_cell_tmp' Tryz.results42 _ _ _ _ _ (0,0) _ _ rfl rfl (srh HR2.out) Tryz.underlying71 rfl (by rw [HS.out];exact iD)) rfl ⟨rfl,?_⟩
  exact gr_setRow HG.out (by omega) _
 ·rw [if_neg h46]
  have b46:(op == 46)=false:=by simp [h46]
  clear h46
  have S3:=SE.out 4
  have O3:=H1.out 4
  generalize hD:dA (d.setH (d.h.trap 4))=D2 at *
  have T3:Hid (∀W:World,Calls Tryz.prog 34 #[.agg D0,.int .i64 4] W fun e w'=>e=.returned (.agg D2)∧Gr W w'):=fun W=>by rw [←hD];exact T.out 4 W
  have HS:Hid _:=S3
  have HO:Hid _:=O3
  clear SE H1 T S3 O3 hD
  go_enter Tryz.func42,Tryz.ntmps42
  go_wp2_with fail
  refine (L.out _ ((((Gr.refl _).alloc _).alloc _).alloc _)).mono ?_
  rintro e w' ⟨rfl,rfl⟩
  go_wp2_with (refine wpList_load_row rfl 71 _ rfl w.heap.size rfl 71 D0 (0,0) _ ?hb1 Tryz.underlying71 rfl (by rw [hs.out];exact iD) ?_;(case hb1=>exact first_of_three w _ _ _ _ _ _))
  refine (T3.out _).mono ?_
  rintro e w1 ⟨rfl,G1⟩
  have HR:Hid (∃Z:Array Value,Z.size=41∧w1.heap[w.heap.size+1+1]?=some (.cells Z 71 (0,0))):=⟨_,rfl,(three_blocks G1).2.2⟩
  have HG:Hid (Gr w w1):=((((Gr.refl _).alloc _).alloc _).alloc _).trans G1
  obtain ⟨Z,hz,hR⟩:=HR.out
  have HR2:Hid _:=hR
  clear G1 T3 L HR hR
  go_wp2_with (refine wpList_store_row rfl 71 _ _ rfl (w.heap.size+1+1) D2 rfl rfl 71 Z ?hb2 (by rw [HS.out];exact iD) (by rw [HS.out,hz]) HO.out ?_;(case hb2=>exact HR2.out))
  refine bodyPost_ret (v:=.tuple #[.agg D2,.bool false]) (results_cell_tmp' Tryz.results42 _ _ _ _ _ (0,0) _ _ rfl rfl (srh HR2.out) Tryz.underlying71 rfl (by rw [HS.out];exact iD)) rfl ⟨rfl,?_⟩
  exact gr_setRow HG.out (by omega) _
theorem hold_e (o:d.Ok)(b:Bool)(a:Int):∃X:Array Value,X.size=41∧(dA d).setIfInBounds 33 (.bool b)=X∧X.setIfInBounds 34 (.int .u32 a)=dA (d.setH (d.h.hold b a)):=by
 have o1:Hv.Ok { d.h with held:=b }:=⟨o.h.len,o.h.reg,o.h.pc0,o.h.pc1,o.h.at0,o.h.at1⟩
 exact ⟨_,dA_size (d:={ d with h:={ d.h with held:=b } }) o1,dA_set o.h (by omega) (set_held o.h b),dA_set (d:={ d with h:={ d.h with held:=b } }) o1 (by omega) (set_heldAt o1 a)⟩
structure Bl (w:World) (B:Nat) (D I Z:Array Value):Prop where
 d:w.heap[B]?=some (.cells D 71 (0,0))
 i:w.heap[B+1]?=some (.cells I 77 (0,0))
 z:w.heap[B+1+1]?=some (.cells Z 71 (0,0))
theorem Bl.of (h:Bl w B D I Z)(g:Gr w w'):Bl w' B D I Z:=⟨heap_of_gr g h.d,heap_of_gr g h.i,heap_of_gr g h.z⟩
theorem Bl.cellI (h:Bl w B D I Z)(j:Nat):w.cell? ⟨B+1,j,none⟩=I[j]?:=cr h.i
theorem Bl.cellD (h:Bl w B D I Z)(j:Nat):w.cell? ⟨B,j,none⟩=D[j]?:=cr h.d
theorem Bl.fz (h:Bl w B D I Z)(j:Nat):w.frozen? ⟨B,j,none⟩=false:=frozen_of_row _ _ j _ _ h.d
theorem Bl.set (h:Bl w B D I Z)(j:Nat)(v:Value):Bl (w.setCell ⟨B,j,none⟩ v) B (D.setIfInBounds j v) I Z:=
 ⟨hss h.d,by rw [hso (by simp)];exact h.i,by rw [hso (by simp;omega)];exact h.z⟩
theorem Bl.row (h:Bl w B D I Z)(E:Array Value):Bl (w.setRow B E) B E I Z:=
 ⟨srh h.d,by rw [sro (by omega)];exact h.i,by rw [sro (by omega)];exact h.z⟩
theorem atom_lr {d:Dv}(o:d.Ok){ao:Option Addr}{n cap:Nat}{l:List UInt8}(hm:d.m=.slice ao n cap)(rd r1 r2 im a b:Int){w:World}(M:Mem w ao n l)(hn:n≤140737488351232)(h0:0≤a)(h1:a<4294967296)(hr0:0≤rd)(hr1:rd<32)(ok:ldOk l 13 a=true)(hv0:0≤ldV l 13 a)(hv1:ldV l 13 a<4294967296):
  Calls Tryz.prog 42 #[.agg (dA d),.agg (iA 46 rd r1 r2 im),.int .u32 a,.int .u32 b] w fun e w'=>e=.returned (.tuple #[.agg (dA ((d.setH (d.h.hold true a)).setH ((d.h.hold true a).set rd.toNat (ldV l 13 a)))),.bool true])∧Gr w w':=by
 have L:Hid (∀W:World,Gr w W→Calls Tryz.prog 24 #[.slice ao n cap,.int .i64 13,.int .u32 a] W fun e w'=>e=.returned (.tuple #[.int .u32 (ldV l 13 a),.bool true])∧Gr W w'):=fun W G=>by
  have:=Mr.Load_any cap 13 a (M.of G) hn h0 h1
  rw [ok] at this
  exact this.mono fun e w' h=>⟨h.1,by rw [h.2];exact Gr.refl _⟩
 have o1:(d.setH (d.h.hold true a)).Ok:=o.setH (o.h.hold true h0 h1)
 have T:Hid (∀W:World,Calls Tryz.prog 37 #[.agg (dA (d.setH (d.h.hold true a))),.int .i64 rd,.int .u32 (ldV l 13 a)] W fun e w'=>e=.returned (.agg (dA ((d.setH (d.h.hold true a)).setH ((d.h.hold true a).set rd.toNat (ldV l 13 a)))))∧Gr W w'):=fun W=>set_any o1 rd _ W hr0 hr1 hv0 hv1
 have HS:Hid ((dA ((d.setH (d.h.hold true a)).setH ((d.h.hold true a).set rd.toNat (ldV l 13 a)))).size=41):=dA_size (d:=(d.setH _).setH _) (o1.h.set _ hv0 hv1)
 have HO:Hid ((dA ((d.setH (d.h.hold true a)).setH ((d.h.hold true a).set rd.toNat (ldV l 13 a)))).all (·.oneCell')=true):=one_dA (o1.setH (o1.h.set _ hv0 hv1))
 have g37:(dA d)[37]?=some (.slice ao n cap):=by rw [dA_fld o.h 0];simp [hm]
 have g33:(dA d)[33]?=some (.bool d.h.held):=by rw [dA_get o.h (by omega)];exact hL_fld o.h 1
 have g34:(dA d)[34]?=some (.int .u32 d.h.heldAt):=by rw [dA_get o.h (by omega)];exact hL_fld o.h 2
 have S1:Hid ((dA (d.setH (d.h.hold true a))).size=41):=dA_size o1.h
 obtain ⟨X,sX,e1,e2⟩:=hold_e o true a
 generalize d.h.held=q1 at *
 generalize d.h.heldAt=q2 at *
 generalize ldV l 13 a=y at *
 generalize dA ((d.setH (d.h.hold true a)).setH ((d.h.hold true a).set rd.toNat y))=D2 at *
 generalize dA (d.setH (d.h.hold true a))=D1 at *
 generalize dA d=D0 at *
 clear M hm ok o o1
 unfold iA
 go_enter Tryz.func42,Tryz.ntmps42
 go_wp2_with fail
 refine (L.out _ ((((Gr.refl _).alloc _).alloc _).alloc _)).mono ?_
 rintro e w1 ⟨rfl,G1⟩
 have HZ:Hid (∃Z:Array Value,Z.size=41∧Bl w1 w.heap.size D0 #[.int .i64 46,.int .i64 rd,.int .i64 r1,.int .i64 r2,.int .i32 im] Z):=⟨_,rfl,(three_blocks G1).1,(three_blocks G1).2.1,(three_blocks G1).2.2⟩
 obtain ⟨Z,hz,hb⟩:=HZ.out
 have HG:Hid (Gr w w1):=((((Gr.refl _).alloc _).alloc _).alloc _).trans G1
 have c0:w1.cell? ⟨w.heap.size+1,0,none⟩=some (.int .i64 46):=hb.cellI 0
 have c1:w1.cell? ⟨w.heap.size+1,1,none⟩=some (.int .i64 rd):=hb.cellI 1
 have c33:w1.cell? ⟨w.heap.size,33,none⟩=some (.bool q1):=(hb.cellD 33).trans g33
 have c34:w1.cell? ⟨w.heap.size,34,none⟩=some (.int .u32 q2):=(hb.cellD 34).trans g34
 have fz:=hb.fz
 have HB:Hid (Bl ((w1.setCell ⟨w.heap.size,33,none⟩ (.bool true)).setCell ⟨w.heap.size,34,none⟩ (.int .u32 a)) w.heap.size D1 #[.int .i64 46,.int .i64 rd,.int .i64 r1,.int .i64 r2,.int .i32 im] Z):=by
  have:=(hb.set 33 (.bool true)).set 34 (.int .u32 a)
  rw [e1,e2] at this
  exact this
 have HG2:Hid (Gr w ((w1.setCell ⟨w.heap.size,33,none⟩ (.bool true)).setCell ⟨w.heap.size,34,none⟩ (.int .u32 a))):=(HG.out.setCell (Nat.le_refl _) _).setCell (Nat.le_refl _) _
 clear G1 L hb HZ e1 e2 sX g33 g34 g37
 go_wp2_with (refine wpList_load_row rfl 71 _ rfl w.heap.size rfl 71 D1 (0,0) _ ?hb1 Tryz.underlying71 rfl (by rw [S1.out];exact iD) ?_;(case hb1=>exact HB.out.d))
 refine (T.out _).mono ?_
 rintro e w2 ⟨rfl,G2⟩
 have HG3:Hid (Gr w w2):=HG2.out.trans G2
 have HR:Hid (w2.heap[w.heap.size+1+1]?=some (.cells Z 71 (0,0))):=(HB.out.of G2).z
 clear G2 T HG2 HG HB c0 c1 c33 c34 fz
 go_wp2_with (refine wpList_store_row rfl 71 _ _ rfl (w.heap.size+1+1) D2 rfl rfl 71 Z ?hb2 (by rw [HS.out];exact iD) (by rw [HS.out,hz]) HO.out ?_;(case hb2=>exact HR.out))
 refine bodyPost_ret (v:=.tuple #[.agg D2,.bool true]) (results_cell_tmp' Tryz.results42 _ _ _ _ _ (0,0) _ _ rfl rfl (setRow_heap _ _ _ _ _ (0,0) HR.out) Tryz.underlying71 rfl (by rw [HS.out];exact iD)) rfl ⟨rfl,?_⟩
 exact gr_setRow HG3.out (by omega) _
theorem atom_sc_no {d:Dv}(o:d.Ok){ao:Option Addr}{n cap:Nat}{l:List UInt8}(hm:d.m=.slice ao n cap)(rd r1 r2 im a b:Int){w:World}(M:Mem w ao n l)(hn:n≤140737488351232)(h0:0≤a)(h1:a<4294967296)(hr0:0≤rd)(hr1:rd<32)(ok:ldOk l 13 a=true)(hmine:¬(d.h.held=true∧d.h.heldAt=a)):
  Calls Tryz.prog 42 #[.agg (dA d),.agg (iA 47 rd r1 r2 im),.int .u32 a,.int .u32 b] w fun e w'=>e=.returned (.tuple #[.agg (dA ((d.setH (d.h.hold false 0)).setH ((d.h.hold false 0).set rd.toNat 1))),.bool true])∧Gr w w':=by
 have L:Hid (∀W:World,Gr w W→Calls Tryz.prog 24 #[.slice ao n cap,.int .i64 13,.int .u32 a] W fun e w'=>e=.returned (.tuple #[.int .u32 (ldV l 13 a),.bool true])∧Gr W w'):=fun W G=>by
  have:=Mr.Load_any cap 13 a (M.of G) hn h0 h1
  rw [ok] at this
  exact this.mono fun e w' h=>⟨h.1,by rw [h.2];exact Gr.refl _⟩
 have o1:(d.setH (d.h.hold false 0)).Ok:=o.setH (o.h.hold false (x:=0) (by omega) (by omega))
 have T:Hid (∀W:World,Calls Tryz.prog 37 #[.agg (dA (d.setH (d.h.hold false 0))),.int .i64 rd,.int .u32 1] W fun e w'=>e=.returned (.agg (dA ((d.setH (d.h.hold false 0)).setH ((d.h.hold false 0).set rd.toNat 1))))∧Gr W w'):=fun W=>set_any o1 rd 1 W hr0 hr1 (by omega) (by omega)
 have HS:Hid ((dA ((d.setH (d.h.hold false 0)).setH ((d.h.hold false 0).set rd.toNat 1))).size=41):=dA_size (d:=(d.setH _).setH _) (o1.h.set _ (x:=1) (by omega) (by omega))
 have HO:Hid ((dA ((d.setH (d.h.hold false 0)).setH ((d.h.hold false 0).set rd.toNat 1))).all (·.oneCell')=true):=one_dA (o1.setH (o1.h.set _ (x:=1) (by omega) (by omega)))
 have g37:(dA d)[37]?=some (.slice ao n cap):=by rw [dA_fld o.h 0];simp [hm]
 have g33:(dA d)[33]?=some (.bool d.h.held):=by rw [dA_get o.h (by omega)];exact hL_fld o.h 1
 have g34:(dA d)[34]?=some (.int .u32 d.h.heldAt):=by rw [dA_get o.h (by omega)];exact hL_fld o.h 2
 have S1:Hid ((dA (d.setH (d.h.hold false 0))).size=41):=dA_size o1.h
 obtain ⟨X,sX,e1,e2⟩:=hold_e o false 0
 generalize d.h.held=q1 at *
 generalize d.h.heldAt=q2 at *
 generalize ldV l 13 a=y at *
 generalize dA ((d.setH (d.h.hold false 0)).setH ((d.h.hold false 0).set rd.toNat 1))=D2 at *
 generalize dA (d.setH (d.h.hold false 0))=D1 at *
 generalize dA d=D0 at *
 clear M hm ok o o1
 unfold iA
 cases q1 with
 | false=>
  clear hmine
  go_enter Tryz.func42,Tryz.ntmps42
  go_wp2_with fail
  refine (L.out _ ((((Gr.refl _).alloc _).alloc _).alloc _)).mono ?_
  rintro e w1 ⟨rfl,G1⟩
  have HZ:Hid (∃Z:Array Value,Z.size=41∧Bl w1 w.heap.size D0 #[.int .i64 47,.int .i64 rd,.int .i64 r1,.int .i64 r2,.int .i32 im] Z):=⟨_,rfl,(three_blocks G1).1,(three_blocks G1).2.1,(three_blocks G1).2.2⟩
  obtain ⟨Z,hz,hb⟩:=HZ.out
  have HG:Hid (Gr w w1):=((((Gr.refl _).alloc _).alloc _).alloc _).trans G1
  have c0:w1.cell? ⟨w.heap.size+1,0,none⟩=some (.int .i64 47):=hb.cellI 0
  have c1:w1.cell? ⟨w.heap.size+1,1,none⟩=some (.int .i64 rd):=hb.cellI 1
  have c33:w1.cell? ⟨w.heap.size,33,none⟩=some (.bool false):=(hb.cellD 33).trans g33
  have c34:w1.cell? ⟨w.heap.size,34,none⟩=some (.int .u32 q2):=(hb.cellD 34).trans g34
  have fz:=hb.fz
  have HB:Hid (Bl ((w1.setCell ⟨w.heap.size,33,none⟩ (.bool false)).setCell ⟨w.heap.size,34,none⟩ (.int .u32 0)) w.heap.size D1 #[.int .i64 47,.int .i64 rd,.int .i64 r1,.int .i64 r2,.int .i32 im] Z):=by
   have:=(hb.set 33 (.bool false)).set 34 (.int .u32 0)
   rw [e1,e2] at this
   exact this
  have HG2:Hid (Gr w ((w1.setCell ⟨w.heap.size,33,none⟩ (.bool false)).setCell ⟨w.heap.size,34,none⟩ (.int .u32 0))):=(HG.out.setCell (Nat.le_refl _) _).setCell (Nat.le_refl _) _
  clear G1 L hb HZ e1 e2 sX g33 g34 g37
  go_wp2_with (refine wpList_load_row rfl 71 _ rfl w.heap.size rfl 71 D1 (0,0) _ ?hb1 Tryz.underlying71 rfl (by rw [S1.out];exact iD) ?_;(case hb1=>exact HB.out.d))
  refine (T.out _).mono ?_
  rintro e w2 ⟨rfl,G2⟩
  have HG3:Hid (Gr w w2):=HG2.out.trans G2
  have HR:Hid (w2.heap[w.heap.size+1+1]?=some (.cells Z 71 (0,0))):=(HB.out.of G2).z
  clear G2 T HG2 HG HB c0 c1 c33 c34 fz
  go_wp2_with (refine wpList_store_row rfl 71 _ _ rfl (w.heap.size+1+1) D2 rfl rfl 71 Z ?hb2 (by rw [HS.out];exact iD) (by rw [HS.out,hz]) HO.out ?_;(case hb2=>exact HR.out))
  refine bodyPost_ret (v:=.tuple #[.agg D2,.bool true]) (results_cell_tmp' Tryz.results42 _ _ _ _ _ (0,0) _ _ rfl rfl (setRow_heap _ _ _ _ _ (0,0) HR.out) Tryz.underlying71 rfl (by rw [HS.out];exact iD)) rfl ⟨rfl,?_⟩
  exact gr_setRow HG3.out (by omega) _
 | true=>
  have hne:(q2 == a)=false:=by simp at hmine;simp [hmine]
  clear hmine
  go_enter Tryz.func42,Tryz.ntmps42
  go_wp2_with fail
  refine (L.out _ ((((Gr.refl _).alloc _).alloc _).alloc _)).mono ?_
  rintro e w1 ⟨rfl,G1⟩
  have HZ:Hid (∃Z:Array Value,Z.size=41∧Bl w1 w.heap.size D0 #[.int .i64 47,.int .i64 rd,.int .i64 r1,.int .i64 r2,.int .i32 im] Z):=⟨_,rfl,(three_blocks G1).1,(three_blocks G1).2.1,(three_blocks G1).2.2⟩
  obtain ⟨Z,hz,hb⟩:=HZ.out
  have HG:Hid (Gr w w1):=((((Gr.refl _).alloc _).alloc _).alloc _).trans G1
  have c0:w1.cell? ⟨w.heap.size+1,0,none⟩=some (.int .i64 47):=hb.cellI 0
  have c1:w1.cell? ⟨w.heap.size+1,1,none⟩=some (.int .i64 rd):=hb.cellI 1
  have c33:w1.cell? ⟨w.heap.size,33,none⟩=some (.bool true):=(hb.cellD 33).trans g33
  have c34:w1.cell? ⟨w.heap.size,34,none⟩=some (.int .u32 q2):=(hb.cellD 34).trans g34
  have fz:=hb.fz
  have HB:Hid (Bl ((w1.setCell ⟨w.heap.size,33,none⟩ (.bool false)).setCell ⟨w.heap.size,34,none⟩ (.int .u32 0)) w.heap.size D1 #[.int .i64 47,.int .i64 rd,.int .i64 r1,.int .i64 r2,.int .i32 im] Z):=by
   have:=(hb.set 33 (.bool false)).set 34 (.int .u32 0)
   rw [e1,e2] at this
   exact this
  have HG2:Hid (Gr w ((w1.setCell ⟨w.heap.size,33,none⟩ (.bool false)).setCell ⟨w.heap.size,34,none⟩ (.int .u32 0))):=(HG.out.setCell (Nat.le_refl _) _).setCell (Nat.le_refl _) _
  clear G1 L hb HZ e1 e2 sX g33 g34 g37
  go_wp2_with (refine wpList_load_row rfl 71 _ rfl w.heap.size rfl 71 D1 (0,0) _ ?hb1 Tryz.underlying71 rfl (by rw [S1.out];exact iD) ?_;(case hb1=>exact HB.out.d))
  refine (T.out _).mono ?_
  rintro e w2 ⟨rfl,G2⟩
  have HG3:Hid (Gr w w2):=HG2.out.trans G2
  have HR:Hid (w2.heap[w.heap.size+1+1]?=some (.cells Z 71 (0,0))):=(HB.out.of G2).z
  clear G2 T HG2 HG HB c0 c1 c33 c34 fz
  go_wp2_with (refine wpList_store_row rfl 71 _ _ rfl (w.heap.size+1+1) D2 rfl rfl 71 Z ?hb2 (by rw [HS.out];exact iD) (by rw [HS.out,hz]) HO.out ?_;(case hb2=>exact HR.out))
  refine bodyPost_ret (v:=.tuple #[.agg D2,.bool true]) (results_cell_tmp' Tryz.results42 _ _ _ _ _ (0,0) _ _ rfl rfl (setRow_heap _ _ _ _ _ (0,0) HR.out) Tryz.underlying71 rfl (by rw [HS.out];exact iD)) rfl ⟨rfl,?_⟩
  exact gr_setRow HG3.out (by omega) _
end Go.Proofs.YtchllaeembmioaaGreatDoor.Hr
