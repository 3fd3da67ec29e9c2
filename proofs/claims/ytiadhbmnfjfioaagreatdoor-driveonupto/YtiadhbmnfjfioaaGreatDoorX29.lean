/- ours -/
import Derived.Test.YtiadhbmnfjfioaaGreatDoorX28
set_option linter.unusedVariables false
set_option linter.unusedSimpArgs false
set_option maxHeartbeats 8000000
set_option maxRecDepth 100000
set_option linter.unusedSectionVars false
namespace Go.Proofs.YtiadhbmnfjfioaaGreatDoor
open Go.Proofs.Tryz hiding d1 d2 d3 d4 d5 t0 t1 t2 t3 t4 t5
open Go.ChangeShapes Go.WideShapes Go.ChangeAt Go.RowKit
namespace En
variable [Inhabited Go.Proofs.YtiadhbmnfjfioaaGreatDoor.Hc.bN]
open Mm Hh Hc Mc

theorem mq {P:Program}{fn:Func}{p1 p2 t:Tmp}{ty1 ty2:TypeId}(h:fn.results=#[.cell p1 ty1,.cell p2 ty2,.tmp t])(tmps:Array Value)(w:World)(g1 g2:Nat)(tt1 tt2:TypeId)(cs1 cs2:Array Value)(fr1 fr2:Nat×Nat)(d1 d2:TypeDesc)
  (v:Value)(hp1:tmps.getD p1 undef=.pointer (some ⟨g1,0,none⟩))(hp2:tmps.getD p2 undef=.pointer (some ⟨g2,0,none⟩))(hv:tmps.getD t undef=v)(hg1:w.heap[g1]?=some (.cells cs1 tt1 fr1))(hg2:w.heap[g2]?=some (.cells cs2 tt2 fr2))
  (hu1:P.underlying ty1=some d1)(hd1:(match d1 with|.struct _|.array _ _=>true|_=>false)=true)(hi1:(P.info? ty1).map (·.size)=some cs1.size)
  (hu2:P.underlying ty2=some d2)(hd2:(match d2 with|.struct _|.array _ _=>true|_=>false)=true)(hi2:(P.info? ty2).map (·.size)=some cs2.size):
  (results fn tmps).run P w=.ok (.tuple #[.agg cs1,.agg cs2,v]) w:=by
 subst hv;have hp1':tmps[p1]?.getD undef=.pointer (some ⟨g1,0,none⟩):=by simpa using hp1
 have ahA:tmps[p2]?.getD undef=.pointer (some ⟨g2,0,none⟩):=by simpa using hp2
 simp[results,h,hp1',ahA,asAddr,au4 w g1 tt1 ty1 cs1 fr1 d1 hg1 hu1 hd1 hi1,au4 w g2 tt2 ty2 cs2 fr2 d2 hg2 hu2 hd2 hi2]
theorem uQ {w w':World}{A B C:Array Value}{t1 t2 t3:Nat}(G:Gr (((w.alloc (.cells A t1)).alloc (.cells B t2)).alloc (.cells C t3)) w'):w'.heap[w.heap.size]?=some (.cells A t1 (0,0))/\w'.heap[w.heap.size+1]?=some (.cells B t2 (0,0))/\w'.heap[w.heap.size+1+1]?=some (.cells C t3 (0,0)):=by
 have e1:(w.alloc (.cells A t1)).heap.size=w.heap.size+1:=by simp
 have e2:((w.alloc (.cells A t1)).alloc (.cells B t2)).heap.size=w.heap.size+1+1:=by simp
 have a:=at5 w (.cells A t1);have b:=at5 (w.alloc (.cells A t1)) (.cells B t2);have c:=at5 ((w.alloc (.cells A t1)).alloc (.cells B t2)) (.cells C t3);rw[e1]at b;rw[e2]at c;exact⟨Kc.aX (Gr.trans (((Gr.refl _).alloc _).alloc _) G) a,Kc.aX (Gr.trans ((Gr.refl _).alloc _) G) b,Kc.aX G c⟩
theorem UG:(prog.info? 47).map (·.size)=some 4:=by kernel_rfl
theorem aai {ma ha pa:Option Addr}{hn pn:Nat}(mc hc pc:Nat){m:List UInt8}{hs:List Hv}{ps:List (Int×Int)}{w:World}(mn:Nat)(room:Int)(lU:m.length=mn)(H:Hs w ha hn hs)(P:Ps w pa pn ps)(b1:mn<=140737488351232)(b2:hn<=140737488351232)(b3:pn<=140737488351232)(hno:¬wrong m hs ps=0):aah w ma ha pa mn mc hn hc pn pc room (wrong m hs ps):=by
 intro W0 G0;have HN:Hid (∀W:World,Gr W0 W->Calls prog 22 #[.agg #[.slice ma mn mc,.slice ha hn hc],.slice pa pn pc] W fun e w'=>e=.returned (.tuple #[.agg #[.slice none 0 0,.slice none 0 0,.slice none 0 0,.int .i64 0],.int .i64 (wrong m hs ps)])/\Gr W w'):=fun W G=>rJ mc hc pc mn lU (H.of (G0.trans G)) (P.of (G0.trans G)) b1 b2 b3 hno
 clear H P lU G0;generalize wrong m hs ps=E at *
 have hE:(E !=0)=true:=by simpa using hno
 clear hno;refine au0 (R:=fun e w'=>e=.returned (.tuple #[.agg #[.slice none 0 0,.slice none 0 0,.slice none 0 0,.int .i64 0],.agg #[.int .i64 0,.slice none 0 0,.int .i64 0,.int .i64 0],.int .i64 E])/\Gr W0 w') ?_ (fun e w' h=>⟨_,none,0,h.1,BU _,h.2⟩);go_enter func12,ntmps12;go_wp2_with fail;refine(HN.out _ ((((Gr.refl _).alloc _).alloc _).alloc _)).mono ?_;rintro e w1 ⟨rfl,G1⟩;obtain⟨_,u1,u2⟩:=uQ G1;have rQ:=kH u1;have sD:=kH u2;have aU:=kH (((((Gr.refl _).alloc _).alloc _).alloc _).trans G1);have HA1:Hid (∀Y:Array Value,(w1.alloc (.cells Y 84)).heap[W0.heap.size+1]?=some (.cells #[.slice none 0 0,.slice none 0 0,.slice none 0 0,.int .i64 0] 47 (0,0))):=fun Y=>Kc.aX ((Gr.refl _).alloc _) rQ.out
 have HA2:Hid (∀Y Z:Array Value,((w1.alloc (.cells Y 84)).setRow (W0.heap.size+1) Z).heap[W0.heap.size+1+1]?=some (.cells #[.int .i64 0,.slice none 0 0,.int .i64 0,.int .i64 0] 54 (0,0))):=fun Y Z=>(auo _ _ _ _ (by omega)).trans (Kc.aX ((Gr.refl _).alloc _) sD.out)
 go_wp2_with (first
  |(refine auf rfl 47 _ _ rfl (W0.heap.size+1) #[.slice none 0 0,.slice none 0 0,.slice none 0 0,.int .i64 0] rfl rfl 47 #[.slice none 0 0,.slice none 0 0,.slice none 0 0,.int .i64 0] ?rr1 UG rfl (by kernel_rfl) ?_;(case rr1=>exact HA1.out _))
  |(refine auf rfl 54 _ _ rfl (W0.heap.size+1+1) #[.int .i64 0,.slice none 0 0,.int .i64 0,.int .i64 0] rfl rfl 54 #[.int .i64 0,.slice none 0 0,.int .i64 0,.int .i64 0] ?rr2 Kc.wG rfl (by kernel_rfl) ?_;(case rr2=>exact HA2.out _ _)))
 refine auc (v:=.tuple #[.agg #[.slice none 0 0,.slice none 0 0,.slice none 0 0,.int .i64 0],.agg #[.int .i64 0,.slice none 0 0,.int .i64 0,.int .i64 0],.int .i64 E]) (mq results12 _ _ (W0.heap.size+1) (W0.heap.size+1+1) 47 54 #[.slice none 0 0,.slice none 0 0,.slice none 0 0,.int .i64 0] #[.int .i64 0,.slice none 0 0,.int .i64 0,.int .i64 0] (0,0) (0,0) _ _ _ rfl rfl rfl ((auo _ _ _ _ (by omega)).trans (aup _ _ _ _ _ (0,0) (HA1.out _))) (aup _ _ _ _ _ (0,0) (HA2.out _ _)) underlying47 rfl UG underlying54 rfl Kc.wG) rfl ⟨rfl,?_⟩;exact ag (ag (aU.out.alloc _) (by omega) _) (by omega) _
theorem UH {ma ha pa:Option Addr}{hn pn:Nat}(mc hc pc:Nat){m:List UInt8}{hs:List Hv}{ps:List (Int×Int)}{w:World}(mn:Nat)(room:Int)(M:Mem w ma mn m)(hcap:ma=none->mc=0)(H:Hs w ha hn hs)(P:Ps w pa pn ps)(hy:wrong m hs ps=0)(hr:room<0\/¬room<0/\64<room)(UI:Hc.mb<=w.heap.size):aah w ma ha pa mn mc hn hc pn pc room 3:=by
 intro W0 G0;obtain⟨b1,b2,b4,_,b3,_⟩:=kE hy;have lY:=M.len;have Xn:=H.len;have hpl:=P.len;have HN:Hid (∀W:World,Gr W0 W->Calls prog 22 #[.agg #[.slice ma mn mc,.slice ha hn hc],.slice pa pn pc] W fun e w'=>∃a c gh hc,e=.returned (.tuple #[.agg #[.slice a mn c,.slice (some ⟨gh,0,none⟩) hn hc,.slice none 0 0,.int .i64 0],.int .i64 0])/\Own w' Hc.mb (.slice a mn c) m/\W.heap.size<=gh/\(bP w' gh hs/\Zh w' gh hc)/\Gr W w'):=fun W G=>kQ mc hc pc mn (M.of (G0.trans G)) hcap (H.of (G0.trans G)) (P.of (G0.trans G)) (by omega) hy (by omega) (by omega) (by omega) (apr UI (apr G0.size G.size))
 have sM:Hid (∀W:World,Calls prog 24 #[.int .i64 room] W fun e w'=>e=.returned (.tuple #[.agg #[.int .i64 0,.slice none 0 0,.int .i64 0,.int .i64 0],.int .i64 3])/\Gr W w'):=fun W=>Kc.F9 W room 0 3 (by rcases hr with h|⟨h1,h2⟩;exact .inl ⟨h,rfl,rfl⟩;exact .inr (.inl ⟨h1,h2,rfl,rfl⟩))
 refine au0 (R:=fun e w'=>e=.returned (.tuple #[.agg #[.slice none 0 0,.slice none 0 0,.slice none 0 0,.int .i64 0],.agg #[.int .i64 0,.slice none 0 0,.int .i64 0,.int .i64 0],.int .i64 3])/\Gr W0 w') ?_ (fun e w' h=>⟨_,none,0,h.1,BU _,h.2⟩);go_enter func12,ntmps12;go_wp2_with fail;refine(HN.out _ ((((Gr.refl _).alloc _).alloc _).alloc _)).mono ?_;rintro e w1 ⟨a1,c1,gh,hc1,rfl,_,_,_,G1⟩;obtain⟨_,u1,u2⟩:=uQ G1;have rQ:=kH u1;have sD:=kH u2;have aU:=kH (((((Gr.refl _).alloc _).alloc _).alloc _).trans G1);go_wp2_with fail;refine(sM.out _).mono ?_;rintro e w2 ⟨rfl,G2⟩;have HG2:=kH (((Gr.refl w1).alloc _).trans G2);have HA1:Hid (∀Y:Array Value,(w2.alloc (.cells Y 54)).heap[W0.heap.size+1]?=some (.cells #[.slice none 0 0,.slice none 0 0,.slice none 0 0,.int .i64 0] 47 (0,0))):=fun Y=>Kc.aX (HG2.out.alloc _) rQ.out
 have HA2:Hid (∀Y Z:Array Value,((w2.alloc (.cells Y 54)).setRow (W0.heap.size+1) Z).heap[W0.heap.size+1+1]?=some (.cells #[.int .i64 0,.slice none 0 0,.int .i64 0,.int .i64 0] 54 (0,0))):=fun Y Z=>(auo _ _ _ _ (by omega)).trans (Kc.aX (HG2.out.alloc _) sD.out)
 go_wp2_with (first
  |(refine auf rfl 47 _ _ rfl (W0.heap.size+1) #[.slice none 0 0,.slice none 0 0,.slice none 0 0,.int .i64 0] rfl rfl 47 #[.slice none 0 0,.slice none 0 0,.slice none 0 0,.int .i64 0] ?rr1 UG rfl (by kernel_rfl) ?_;(case rr1=>exact HA1.out _))
  |(refine auf rfl 54 _ _ rfl (W0.heap.size+1+1) #[.int .i64 0,.slice none 0 0,.int .i64 0,.int .i64 0] rfl rfl 54 #[.int .i64 0,.slice none 0 0,.int .i64 0,.int .i64 0] ?rr2 Kc.wG rfl (by kernel_rfl) ?_;(case rr2=>exact HA2.out _ _)))
 refine auc (v:=.tuple #[.agg #[.slice none 0 0,.slice none 0 0,.slice none 0 0,.int .i64 0],.agg #[.int .i64 0,.slice none 0 0,.int .i64 0,.int .i64 0],.int .i64 3]) (mq results12 _ _ (W0.heap.size+1) (W0.heap.size+1+1) 47 54 #[.slice none 0 0,.slice none 0 0,.slice none 0 0,.int .i64 0] #[.int .i64 0,.slice none 0 0,.int .i64 0,.int .i64 0] (0,0) (0,0) _ _ _ rfl rfl rfl ((auo _ _ _ _ (by omega)).trans (aup _ _ _ _ _ (0,0) (HA1.out _))) (aup _ _ _ _ _ (0,0) (HA2.out _ _)) underlying47 rfl UG underlying54 rfl Kc.wG) rfl ⟨rfl,?_⟩;exact ag (ag ((aU.out.trans HG2.out).alloc _) (by omega) _) (by omega) _
structure Rj (m:List UInt8) (hs:List Hv) (ps:List (Int×Int)) (room:Int) (j:Nat) (L:List Kc.Bv) (pu sl:Int) (iK:Nat):Prop where
 ek:Ek room (aL ⟨hs,m,[],0⟩ ((nums ps).take j)).m L pu sl iK
 hi:iK<=(aL ⟨hs,m,[],0⟩ ((nums ps).take j)).steps
 few:Few (aL ⟨hs,m,[],0⟩ ((nums ps).take j)) (400*j)
 none:j=0->L=[]/\iK=0
 did:0<j->Tx m hs ps->0<iK
theorem Rj.on {m:List UInt8}{hs:List Hv}{ps:List (Int×Int)}{room:Int}{j:Nat}{L L':List Kc.Bv}{pu sl kZ sl':Int}{iK m2 hn mn k n:Nat}(R:Rj m hs ps room j L pu sl iK)(F:Fit (aL ⟨hs,m,[],0⟩ ((nums ps).take j)) hn mn)(hk:k<hn)(hn4:n≤400)(hp:ps[j]?=some ((k:Int),(n:Int)))(K:Ek room (runs (aL ⟨hs,m,[],0⟩ ((nums ps).take j)) k n).m L' kZ sl' m2)(h1:iK<=m2/\m2<=(runs (aL ⟨hs,m,[],0⟩ ((nums ps).take j)) k n).steps)(h2:L=[]->0<n->(at' (aL ⟨hs,m,[],0⟩ ((nums ps).take j)) k).state=0->0<(Bk.blk (aL ⟨hs,m,[],0⟩ ((nums ps).take j)).m (at' (aL ⟨hs,m,[],0⟩ ((nums ps).take j)) k).pc 16 0).length->iK<m2):aL ⟨hs,m,[],0⟩ ((nums ps).take (j+1))=runs (aL ⟨hs,m,[],0⟩ ((nums ps).take j)) k n/\Rj m hs ps room (j+1) L' kZ sl' m2:=by
 have e:aL ⟨hs,m,[],0⟩ ((nums ps).take (j+1))=runs (aL ⟨hs,m,[],0⟩ ((nums ps).take j)) k n:=by
  rw[BQ hp,uj,jc];simp only[apG];rfl
 refine⟨e,by rw[e];exact K,by rw[e];exact h1.2,?_,fun h=>absurd h (by omega),fun _ D=>?_⟩
 ·rw[e,pO (by rw[F.len];exact hk) n,show 400*(j+1)=400*j+400 by omega];have:=Gt n (pQ F hk);have e0:(w0 (aL ⟨hs,m,[],0⟩ ((nums ps).take j)) k).n=0:=rfl;exact OB R.few this.1 (by omega)
 ·by_cases hj:j=0
  ·subst hj;obtain⟨hL,hm⟩:=R.none rfl;obtain⟨p,h,d1,d2,d3,d4,d5⟩:=D;rw[hp]at d1;injection d1 with d1;subst d1;simp only[apG]at d3 d2;have ea:at' (aL ⟨hs,m,[],0⟩ ((nums ps).take 0)) k=h:=by
    show hs.getD k hN=h
    simp[List.getD,d3]
   have:=h2 hL (by omega) (by rw[ea];exact d4) (by rw[ea];exact d5);omega
  ·have:=R.did (by omega) D;omega
theorem Rj.kept {m:List UInt8}{hs:List Hv}{ps:List (Int×Int)}{room:Int}{j:Nat}{L:List Kc.Bv}{pu sl:Int}{iK:Nat}(R:Rj m hs ps room j L pu sl iK)(hj:ps.length<=j):Kept room (aL ⟨hs,m,[],0⟩ ((nums ps).take j)).m (Tx m hs ps) L pu sl:=by
 refine⟨R.ek.cok,R.ek.fresh,fun _ D=>?_⟩;have h0:0<j:=by
  obtain⟨p,h,d1,_⟩:=D;have:=(apj.1 d1).1;omega
 have h1:=R.did h0 D;have h2:=R.ek.cnt;have h3:=R.ek.p0;have h4:=R.ek.s0;by_cases hL:L=[]
 ·subst hL;simp at h2;omega
 ·exact .inl hL
theorem UJ {ma ha pa:Option Addr}{hn pn:Nat}(mc hc pc:Nat){m:List UInt8}{hs:List Hv}{ps:List (Int×Int)}{w:World}(mn:Nat)(room:Int)(T:nI w.heap.size w)(M:Mem w ma mn m)(hcap:ma=none->mc=0)(H:Hs w ha hn hs)(P:Ps w pa pn ps)(hy:wrong m hs ps=0)(hr0:0<=room)(hr1:room<=64)(UI:Hc.mb<=w.heap.size):ad1 w ma ha pa mn mc hn hc pn pc room (aL ⟨hs,m,[],0⟩ (nums ps)) (Kept room (aL ⟨hs,m,[],0⟩ (nums ps)).m (Tx m hs ps)):=by
 intro W0 G0;obtain⟨b1,b2,b4,ze,b3,hpk⟩:=kE hy;have lY:=M.len;have Xn:=H.len;have hpl:=P.len;have HN:Hid (∀W:World,Gr W0 W->Calls prog 22 #[.agg #[.slice ma mn mc,.slice ha hn hc],.slice pa pn pc] W fun e w'=>∃a c gh hc,e=.returned (.tuple #[.agg #[.slice a mn c,.slice (some ⟨gh,0,none⟩) hn hc,.slice none 0 0,.int .i64 0],.int .i64 0])/\Own w' Hc.mb (.slice a mn c) m/\W.heap.size<=gh/\(bP w' gh hs/\Zh w' gh hc)/\Gr W w'):=fun W G=>kQ mc hc pc mn (M.of (G0.trans G)) hcap (H.of (G0.trans G)) (P.of (G0.trans G)) (by omega) hy (by omega) (by omega) (by omega) (apr UI (apr G0.size G.size))
 have sM:Hid (∀W:World,_):=fun W=>Kc.F9 W room room 0 (.inr (.inr ⟨by omega,by omega,rfl,rfl⟩))
 have HF0:Hid (Fit ⟨hs,m,[],0⟩ hn mn):=⟨Xn,lY,fun h hm=>⟨H.ok h hm,ze h hm⟩⟩;have HP:=kH (P.of G0);have Ga:=kH hpl;have HPK:Hid (∀p∈ps,0<=p.1/\p.1<hn/\0<=p.2/\p.2<=400):=by rw[Xn]at hpk;exact hpk
 have xD:=kH Xn;have HT:=kH (T.below G0);have hw0:=G0.size;have ahD:=kH (apr UI G0.size);have c4:hn<=4:=by omega
 have m4:mn<=4096:=by omega
 have p4:pn<=300:=by omega
 obtain⟨tb,htb⟩:∃tb:Nat,tb=w.heap.size:=⟨_,rfl⟩;rw[<-htb]at HT hw0;have hmm:=@run_makeMap prog;go_enter func12,ntmps12;go_wp2_with fail;refine(HN.out _ ((((Gr.refl _).alloc _).alloc _).alloc _)).mono ?_;rintro e w1 ⟨a1,c1,gh,hc1,rfl,O1,hgh,R1,G1⟩;obtain⟨_,u1,u2⟩:=uQ G1;have rQ:=kH u1;have sD:=kH u2;have aU:=kH (((((Gr.refl _).alloc _).alloc _).alloc _).trans G1);have TK:=kH O1;have HR1:=kH R1.1;have HZ1:=kH R1.2;have UK:W0.heap.size+3<=gh:=by simpa using hgh
 go_wp2_with fail;refine(sM.out _).mono ?_;rintro e w2 ⟨rfl,G2⟩;have HG2:=kH (((Gr.refl w1).alloc _).trans G2);have HB2:=kH (Kc.aX G2 (at5 w1 _));have k0:∀o,(w2.alloc o).cell? ⟨w1.heap.size,0,none⟩=some (.slice a1 mn c1):=fun o=>atZ _ _ _ _ _ _ (Kc.aX ((Gr.refl _).alloc _) HB2.out)
 have k1:∀o,(w2.alloc o).cell? ⟨w1.heap.size,1,none⟩=some (.slice (some ⟨gh,0,none⟩) hn hc1):=fun o=>atZ _ _ _ _ _ _ (Kc.aX ((Gr.refl _).alloc _) HB2.out)
 have k2:∀o,(w2.alloc o).cell? ⟨w1.heap.size,2,none⟩=some (.slice none 0 0):=fun o=>atZ _ _ _ _ _ _ (Kc.aX ((Gr.refl _).alloc _) HB2.out)
 have k3:∀o,(w2.alloc o).cell? ⟨w1.heap.size,3,none⟩=some (.int .i64 0):=fun o=>atZ _ _ _ _ _ _ (Kc.aX ((Gr.refl _).alloc _) HB2.out)
 go_wp2_with fail;obtain⟨g,hg⟩:∃g:Nat,g=w2.heap.size+1+1:=⟨_,rfl⟩;obtain⟨mb,hmb⟩:∃mb:Nat,mb=w2.heap.size+1:=⟨_,rfl⟩;refine Kc.Bj (fun W=>Ew 0 W (W0.heap.size+3) g room (.slice a1 mn c1) gh hc1 (.slice none 0 0) none 0 0 mb 0 (.map []) ⟨hs,m,[],0⟩ [] 0 0/\W.heap[W0.heap.size+1]?=some (.cells #[.slice none 0 0,.slice none 0 0,.slice none 0 0,.int .i64 0] 47 (0,0))/\W.heap[W0.heap.size+1+1]?=some (.cells #[.int .i64 0,.slice none 0 0,.int .i64 0,.int .i64 0] 54 (0,0))/\Gr W0 W) ?_ ?_
 ·have hs1:W0.heap.size+2<w1.heap.size:=by have:=(apk.1 sD.out).1;omega
  have hs2:=HG2.out.size;have e1:(w2.alloc (.cells #[.int .i64 room,.slice none 0 0,.int .i64 0,.int .i64 0] 54)).heap.size=w2.heap.size+1:=by simp
  have e2:((w2.alloc (.cells #[.int .i64 room,.slice none 0 0,.int .i64 0,.int .i64 0] 54)).alloc (.map #[] 0)).heap.size=w2.heap.size+1+1:=by simp
  have GA:∀o1 o2 o3:Obj,Gr w1 (((w2.alloc o1).alloc o2).alloc o3):=fun o1 o2 o3=>((HG2.out.alloc _).alloc _).alloc _
  have hblk:=at5 ((w2.alloc (.cells #[.int .i64 room,.slice none 0 0,.int .i64 0,.int .i64 0] 54)).alloc (.map #[] 0)) (.cells #[.slice a1 mn c1,.slice (some ⟨gh,0,none⟩) hn hc1,.slice none 0 0,.int .i64 0,.int .i64 room,.slice none 0 0,.int .i64 0,.int .i64 0,.map (some (w2.heap.size+1))] 94);have hmap:=(World.ownsMap_made (w2.alloc (.cells #[.int .i64 room,.slice none 0 0,.int .i64 0,.int .i64 0] 54)) prog 37 Rh).alloc (.cells #[.slice a1 mn c1,.slice (some ⟨gh,0,none⟩) hn hc1,.slice none 0 0,.int .i64 0,.int .i64 room,.slice none 0 0,.int .i64 0,.int .i64 0,.map (some (w2.heap.size+1))] 94);rw[e2]at hblk;rw[e1]at hmap;refine⟨⟨⟨by decide,by decide,by decide,by omega,?_,gT TK.out (GA _ _ _),UK,HR1.out.of (GA _ _ _),aur _ _ _ _,⟨HZ1.out.of (GA _ _ _),by have:=ahD.out;omega⟩⟩,Kc.NH _ _ _,apn _,by omega,?_,fun b hb=>(by cases hb)⟩,Kc.aX (GA _ _ _) rQ.out,Kc.aX (GA _ _ _) sD.out,aU.out.trans (GA _ _ _)⟩
  ·rw[hg,hmb];show _=some (Obj.cells #[.slice a1 mn c1,.slice (some ⟨gh,0,none⟩) hs.length hc1,.slice none 0 0,.int .i64 ((0:Nat):Int),.int .i64 room,.slice none 0 0,.int .i64 0,.int .i64 0,.map (some (w2.heap.size+1))] 94 (0,0))
   rw[xD.out];exact hblk
  ·rw[hmb];exact hmap
 rw[<-hg,<-hmb];clear hg hmb k0 k1 k2 k3 HB2 HG2 rQ sD aU TK HR1 UK hmm;rintro W3 ⟨E3,u1,u2,G3⟩;have rQ:=kH u1;have sD:=kH u2;have fQ:=kH G3;have Q9:Hid (Ev 0 W3 (W0.heap.size+3) g room ⟨hs,m,[],0⟩ [] 0 0 0):=⟨_,_,_,_,_,_,_,_,_,E3⟩;have hb3:W0.heap.size+3<=W3.heap.size:=E3.ay;have HR0:Hid (Rj m hs ps room 0 [] 0 0 0):=⟨Ek.nil hr0 _,apF _,⟨apn _,apn _⟩,fun _=>⟨rfl,rfl⟩,fun h=>absurd h (by omega)⟩;have Zc:Hid (∀V:World,Below (W0.heap.size+3) W3 V->Gr W0 V/\V.heap[W0.heap.size+1]?=some (.cells #[.slice none 0 0,.slice none 0 0,.slice none 0 0,.int .i64 0] 47 (0,0))/\V.heap[W0.heap.size+1+1]?=some (.cells #[.int .i64 0,.slice none 0 0,.int .i64 0,.int .i64 0] 54 (0,0))):=fun V B=>⟨xC fQ.out B (by omega),(B.block _ (by omega)).trans rQ.out,(B.block _ (by omega)).trans sD.out⟩
 have CR:Hid (∀j,Fit (aL ⟨hs,m,[],0⟩ ((nums ps).take j)) hn mn):=fun j=>pM _ (fun q hq=>by
  obtain⟨r,hr,rfl⟩:=apK.1 (aq7 hq);have:=HPK.out r hr;show r.1.toNat<hn
  omega) HF0.out
 clear u1 u2 G3 E3 rQ sD fQ HF0 xD;go_loopw [42] (fun i wr=>∃j:Nat,j<=pn/\i=.int .i64 j/\(∃L pu sl iK,Ev 0 wr (W0.heap.size+3) g room (aL ⟨hs,m,[],0⟩ ((nums ps).take j)) L pu sl iK/\Rj m hs ps room j L pu sl iK)/\Below (W0.heap.size+3) W3 wr) (fun i _=>pn-(intOf i).toNat)
 case atStart=>exact⟨0,apF _,rfl,⟨[],0,0,0,Q9.out,HR0.out⟩,auC _ _⟩
 case round=>
  obtain⟨j,hj,rfl,⟨L,pu,sl,iK,E4,R4⟩,B4⟩:=hrel;have Ra:=kH E4;have HR4:=kH R4;have sj:=kH B4;have fC:=kH ((Zc.out _ B4).1);have hb4:=apr hb3 B4.size;by_cases hlt:j<pn
  ·obtain⟨p,hp⟩:∃p,ps[j]?=some p:=⟨_,api (by rw[Ga.out];exact hlt)⟩;obtain⟨z0,z1,z2,z3⟩:=HPK.out p (aps hp);obtain⟨b',o',rfl,hb',hcell'⟩:=HP.out.spot (by omega);have q0:=(fC.out.cell _ (by exact hb')).trans (hcell' j p hp).1;have q1:=(fC.out.cell _ (by exact hb')).trans (hcell' j p hp).2;clear hcell';obtain⟨p1,p2⟩:=p;simp only at *
   obtain⟨k,rfl⟩:=apt z0;obtain⟨n,rfl⟩:=apt z2;have hk:k<hn:=by omega
   have hn4:n<=400:=by omega
   have HTu:Hid (∀V:World,Gr wr V->Calls prog 25 #[.pointer (some ⟨g,0,none⟩),.agg #[.int .i64 k,.int .i64 n]] V fun e w'=>e=.returned (.tuple #[])/\(∃L' kZ sl' m2,Ev 0 w' (W0.heap.size+3) g room (aL ⟨hs,m,[],0⟩ ((nums ps).take (j+1))) L' kZ sl' m2/\Rj m hs ps room (j+1) L' kZ sl' m2)/\Below (W0.heap.size+3) V w'):=fun V G=>by
    have f1:=HR4.out.few.1;have f2:=HR4.out.few.2;refine(uP (Ra.out.of G) HR4.out.ek (HT.out.below (aun (fC.out.trans G) hw0)) (by omega) (CR.out j) m4 c4 hr0 hr1 HR4.out.hi f1 (by omega) hk hn4).mono ?_;rintro e w' ⟨rfl,⟨L',kZ,sl',m2,E',K',h1,h2⟩,B'⟩;obtain⟨x1,x2⟩:=HR4.out.on (CR.out j) hk hn4 hp K' h1 h2;exact⟨rfl,⟨L',kZ,sl',m2,by rw[x1];exact E',x2⟩,B'⟩
   clear z0 z1 z2 z3 hp Ra HR4;go_wp2_with fail;refine(HTu.out _ ((Gr.refl _).alloc _)).mono ?_;rintro e w5 ⟨rfl,V5,B5⟩;have HV5:=kH V5;have KW:=kH (sj.out.trans ((aun ((Gr.refl wr).alloc _) hb4).trans B5));go_wp2_with fail;go_roundw
   case rel=>exact⟨j+1,by omega,by go_num,HV5.out,KW.out⟩
   case measure=>simp[intOf];omega
  ·have ej:ps.length<=j:=by rw[Ga.out];omega
   have HE:Hid ((nums ps).take j=nums ps):=by unfold Hid;rw[ap0 (by unfold nums;rw[apY];exact ej)]
   have WY:Hid (Kept room (aL ⟨hs,m,[],0⟩ (nums ps)).m (Tx m hs ps) L pu sl):=by have:=HR4.out.kept ej;rw[HE.out]at this;exact this
   have HFs:Hid (Fit (aL ⟨hs,m,[],0⟩ (nums ps)) hn mn):=by have:=CR.out j;rw[HE.out]at this;exact this
   obtain⟨Mv,gh,hc1,Ov,a,n,cap,mb',D,E5⟩:=Ra.out;rw[HE.out]at E5;generalize hS:aL ⟨hs,m,[],0⟩ (nums ps)=s at *
   have HSS:=kH hS;obtain⟨va,vc,rfl, -⟩:=E5.bw.mem.mem;obtain⟨oa,oc,rfl⟩:=(az E5.bw.out).2.2;have Gp:=kH E5;have UE:=kH HFs.out.mem;have HHs:=kH HFs.out.len;obtain⟨ol,hol⟩:∃ol:Nat,ol=s.out.length:=⟨_,rfl⟩;obtain⟨st,hst⟩:∃st:Int,st=s.steps:=⟨_,rfl⟩;have HOS:Hid (ol=s.out.length/\st=s.steps):=⟨hol,hst⟩;have HS:Hid ((fun W=>W.cell? ⟨g,0,none⟩=some (.slice va mn vc)/\W.cell? ⟨g,1,none⟩=some (.slice (some ⟨gh,0,none⟩) hn hc1)/\W.cell? ⟨g,2,none⟩=some (.slice oa ol oc)/\W.cell? ⟨g,3,none⟩=some (.int .i64 st)/\W.cell? ⟨g,4,none⟩=some (.int .i64 room)/\W.cell? ⟨g,5,none⟩=some (.slice a n cap)/\W.cell? ⟨g,6,none⟩=some (.int .i64 pu)/\W.cell? ⟨g,7,none⟩=some (.int .i64 sl)) wr):=by
    have x0:=E5.bw.c0;have x1:=E5.bw.c1;have x2:=E5.bw.c2;have x3:=E5.bw.c3;rw[UE.out]at x0;rw[HHs.out]at x1;rw[<-hol]at x2;rw[<-hst]at x3;exact⟨x0,x1,x2,x3,E5.c4,E5.c5,E5.c6,E5.c7⟩
   obtain⟨GW,U1,U2⟩:=Zc.out _ sj.out;have zT:=kH GW;have rQ:=kH U1;have sD:=kH U2;have hgb:=E5.bw.bg;have fO:Hid (∀(V:World),(∀i:Nat,V.cell? ⟨g,i,none⟩=wr.cell? ⟨g,i,none⟩)->(fun W=>W.cell? ⟨g,0,none⟩=some (.slice va mn vc)/\W.cell? ⟨g,1,none⟩=some (.slice (some ⟨gh,0,none⟩) hn hc1)/\W.cell? ⟨g,2,none⟩=some (.slice oa ol oc)/\W.cell? ⟨g,3,none⟩=some (.int .i64 st)/\W.cell? ⟨g,4,none⟩=some (.int .i64 room)/\W.cell? ⟨g,5,none⟩=some (.slice a n cap)/\W.cell? ⟨g,6,none⟩=some (.int .i64 pu)/\W.cell? ⟨g,7,none⟩=some (.int .i64 sl)) V):=fun V h=>by
    obtain⟨y0,y1,y2,y3,y4,y5,y6,y7⟩:=HS.out;exact⟨(h 0).trans y0,(h 1).trans y1,(h 2).trans y2,(h 3).trans y3,(h 4).trans y4,(h 5).trans y5,(h 6).trans y6,(h 7).trans y7⟩
   go_wp2_with fail;refine aut (S:=fun W=>W.cell? ⟨g,0,none⟩=some (.slice va mn vc)/\W.cell? ⟨g,1,none⟩=some (.slice (some ⟨gh,0,none⟩) hn hc1)/\W.cell? ⟨g,2,none⟩=some (.slice oa ol oc)/\W.cell? ⟨g,3,none⟩=some (.int .i64 st)/\W.cell? ⟨g,4,none⟩=some (.int .i64 room)/\W.cell? ⟨g,5,none⟩=some (.slice a n cap)/\W.cell? ⟨g,6,none⟩=some (.int .i64 pu)/\W.cell? ⟨g,7,none⟩=some (.int .i64 sl)) (by kernel_rfl) ?_ (fun hHeld=>?_)
   ·exact fO.out _ (fun i=>rfl)
   have aY:=kH hHeld;refine tK 0 (.pointer (some ⟨g,0,none⟩)) aY.out ?_;refine tK 1 (.pointer (some ⟨g,0,none⟩)) aY.out ?_;refine tK 2 (.agg #[.slice va mn vc,.slice (some ⟨gh,0,none⟩) hn hc1,.slice oa ol oc,.int .i64 st]) aY.out ?_;refine tK 3 (.pointer (some ⟨g,4,none⟩)) aY.out ?_;refine tK 4 (.agg #[.int .i64 room,.slice a n cap,.int .i64 pu,.int .i64 sl]) aY.out ?_;have oQ:Hid (∀i:Nat,(wr.drew.setRow (W0.heap.size+1) #[.slice va mn vc,.slice (some ⟨gh,0,none⟩) hn hc1,.slice oa ol oc,.int .i64 st]).cell? ⟨g,i,none⟩=wr.cell? ⟨g,i,none⟩):=fun i=>aui (auo _ _ _ _ (by show g≠W0.heap.size+1;omega))
   have ll:Hid (∀i:Nat,((wr.drew.setRow (W0.heap.size+1) #[.slice va mn vc,.slice (some ⟨gh,0,none⟩) hn hc1,.slice oa ol oc,.int .i64 st]).setRow (W0.heap.size+1+1) #[.int .i64 room,.slice a n cap,.int .i64 pu,.int .i64 sl]).cell? ⟨g,i,none⟩=wr.cell? ⟨g,i,none⟩):=fun i=>(aui (auo _ _ _ _ (by show g≠W0.heap.size+1+1;omega))).trans (oQ.out i)
   have HV2:Hid ((wr.drew.setRow (W0.heap.size+1) #[.slice va mn vc,.slice (some ⟨gh,0,none⟩) hn hc1,.slice oa ol oc,.int .i64 st]).heap[W0.heap.size+1+1]?=some (.cells #[.int .i64 0,.slice none 0 0,.int .i64 0,.int .i64 0] 54 (0,0))):=(auo _ _ _ _ (by omega)).trans sD.out;refine Hc.bu (i:=5) (by kernel_rfl) rfl rfl 47 (.tmp 6) (.tmp 51) rfl (W0.heap.size+1) #[.slice va mn vc,.slice (some ⟨gh,0,none⟩) hn hc1,.slice oa ol oc,.int .i64 st] (by simp[Act.eval]) (by simp[Act.eval]) 47 #[.slice none 0 0,.slice none 0 0,.slice none 0 0,.int .i64 0] rQ.out UG rfl (DR _ _ _ _ _ _ _ _ _ _) ?_ ?_
   ·exact fO.out _ oQ.out
   refine Hc.bu (i:=6) (by kernel_rfl) rfl rfl 54 (.tmp 7) (.tmp 53) rfl (W0.heap.size+1+1) #[.int .i64 room,.slice a n cap,.int .i64 pu,.int .i64 sl] (by simp[Act.eval,Act.put]) (by simp[Act.eval,Act.put]) 54 #[.int .i64 0,.slice none 0 0,.int .i64 0,.int .i64 0] HV2.out Kc.wG rfl (Ea _ _ _ _ _ _) ?_ ?_
   ·exact fO.out _ ll.out
   refine tK 7 (.int .i64 0) (fO.out _ ll.out) ?_;refine auy (by kernel_rfl) ?_ _;go_wp2_with fail;have W6:∀(k:Nat) (o:Array Value) (t:Nat) (f:Nat×Nat),t≠47->t≠54->wr.heap[k]?=some (.cells o t f)->((wr.drew.setRow (W0.heap.size+1) #[.slice va mn vc,.slice (some ⟨gh,0,none⟩) hn hc1,.slice oa ol oc,.int .i64 st]).setRow (W0.heap.size+1+1) #[.int .i64 room,.slice a n cap,.int .i64 pu,.int .i64 sl]).heap[k]?=wr.heap[k]?:=fun k o t f t1 t2 hk=>by
    rw[auo _ _ _ _ (aa hk sD.out t2),auo _ _ _ _ (aa hk rQ.out t1)];rfl
   refine auc (v:=.tuple #[.agg #[.slice va mn vc,.slice (some ⟨gh,0,none⟩) hn hc1,.slice oa ol oc,.int .i64 st],.agg #[.int .i64 room,.slice a n cap,.int .i64 pu,.int .i64 sl],.int .i64 0]) (mq results12 _ _ (W0.heap.size+1) (W0.heap.size+1+1) 47 54 #[.slice va mn vc,.slice (some ⟨gh,0,none⟩) hn hc1,.slice oa ol oc,.int .i64 st] #[.int .i64 room,.slice a n cap,.int .i64 pu,.int .i64 sl] (0,0) (0,0) _ _ _ rfl rfl rfl ((auo _ _ _ _ (by omega)).trans (aup _ _ _ _ _ (0,0) rQ.out)) (aup _ _ _ _ _ (0,0) HV2.out) underlying47 rfl UG underlying54 rfl Kc.wG) rfl ?_;have GF:Gr W0 ((wr.drew.setRow (W0.heap.size+1) #[.slice va mn vc,.slice (some ⟨gh,0,none⟩) hn hc1,.slice oa ol oc,.int .i64 st]).setRow (W0.heap.size+1+1) #[.int .i64 room,.slice a n cap,.int .i64 pu,.int .i64 sl]):=ag (ag zT.out.drew (by omega) _) (by omega) _;obtain⟨rfl,rfl⟩:=HOS.out;refine⟨_,a,n,cap,pu,sl,L,rfl,?_,⟨?_,Gp.out.cap,?_⟩,GF⟩
   ·rw[HSS.out];refine Gu (base:=W0.heap.size+3) ?_ UE.out (Gp.out.bw.row.to fun k o f hk=>W6 k o _ f (by decide) (by decide) hk) ⟨Gp.out.bw.hz.1.to fun k o f hk=>W6 k o _ f (by decide) (by decide) hk,apr Gp.out.bw.hz.2 Gp.out.bw.bh⟩ HHs.out (aj Gp.out.bw.out fun k o f hk=>W6 k o _ f (by decide) (by decide) hk);have:=Gp.out.bw.mem.to fun k o f hk=>W6 k o _ f (by decide) (by decide) hk
    rw[UE.out]at this;exact this
   ·exact(Gp.out.bt.to fun k o t f _ ht hk=>W6 k o t f (by rcases ht with rfl|rfl<;>decide) (by rcases ht with rfl|rfl<;>decide) hk).bs
   ·rw[HSS.out];exact WY.out
end En
namespace Bk
variable [Inhabited Go.Proofs.YtiadhbmnfjfioaaGreatDoor.Hc.bN]
open Mm Hh Hc

end Bk
namespace Ts
variable [Inhabited Go.Proofs.YtiadhbmnfjfioaaGreatDoor.Hc.bN]
open Mm Hc Mi Bk
open Hh hiding Rn

theorem DW : prog.globalNamed "ferrybridge/trans.operations" = some 6 := by kernel_rfl
theorem DX:(prog.globals[6]?).map (·.type)=some 258:=by kernel_rfl
theorem EF:(List.range 28).map (Dw.look prog 3 258 (Rows.laid_ferrybridge_trans_operations (H:=Unit)))=kR.map fun n=>some (.int .i64 n):=by kernel_rfl
end Ts
namespace Mc
open Mm Hh

variable {a :Addr}
end Mc
namespace Mc
open Mm Hh

end Mc
namespace En
variable [Inhabited Go.Proofs.YtiadhbmnfjfioaaGreatDoor.Hc.bN]
open Mm Hh Hc Mc

theorem ad8 : prog.globalNamed "ferrybridge/micro.rows" = some 7 := by kernel_rfl
theorem ad9:(prog.globals[7]?).map (·.type)=some 262:=by kernel_rfl
theorem OC:(List.range 33).map (Dw.look prog 5 262 (Rows.laid_ferrybridge_micro_rows (H:=Unit)))=Mp.qd.map fun n=>some (.int .i64 n):=by kernel_rfl
theorem zm {W : World}(h : laidMetH prog [("ferrybridge/decode.shapes", Rows.laid_ferrybridge_decode_shapes), ("ferrybridge/decode.uppers", Rows.laid_ferrybridge_decode_uppers), ("ferrybridge/trans.operations", Rows.laid_ferrybridge_trans_operations), ("ferrybridge/hart.sizes", Rows.laid_ferrybridge_hart_sizes), ("ferrybridge/hart.operations", Rows.laid_ferrybridge_hart_operations), ("ferrybridge/micro.rows", Rows.laid_ferrybridge_micro_rows)] W) : nI W.heap.size W := by
 rw[auZ _ _ _ (by kernel_rfl)]at h;obtain⟨ps,⟨g0,t0,cs0,f0,p0,q0,hg0,ht0,hv0,hd0,⟨g1,t1,cs1,f1,p1,q1,hg1,ht1,hv1,hd1,⟨g2,t2,cs2,f2,p2,q2,hg2,ht2,hv2,hd2,⟨g3,t3,cs3,f3,p3,q3,hg3,ht3,hv3,hd3,⟨g4,t4,cs4,f4,p4,q4,hg4,ht4,hv4,hd4,⟨g5,t5,cs5,f5,p5,q5,hg5,ht5,hv5,hd5,_,_⟩,_⟩,_⟩,_⟩,_⟩,_⟩,_,_⟩:=h;obtain rfl:=aum (Dw.Fh.symm.trans hg0);obtain rfl:=aum (Dw.Fj.symm.trans hg1);obtain rfl:=aum (Ts.DW.symm.trans hg2);obtain rfl:=aum (Hc.Y8.symm.trans hg3);obtain rfl:=aum (Hc.DW.symm.trans hg4);obtain rfl:=aum (ad8.symm.trans hg5);obtain rfl:=aum (Dw.Fp.symm.trans ht0);obtain rfl:=aum (Dw.Fs.symm.trans ht1);obtain rfl:=aum (Ts.DX.symm.trans ht2);obtain rfl:=aum (Hc.Y9.symm.trans ht3);obtain rfl:=aum (Hc.DX.symm.trans ht4);obtain rfl:=aum (ad9.symm.trans ht5);have T:Dw.nK W:=by
  refine⟨fun i v hi=>?_,fun i n hi=>?_⟩
  ·have:=Dw.dN 5 hd0 (Dw.jB Dw.sZ hi);rw[auH hg0 hv0 i];simpa using this
  ·have:=Dw.dN 3 hd1 (Dw.jB (l:=Dc.uppers.map fun n=>.int .u32 n) (i:=i) (v:=.int .u32 n) (by rw[Dw.tC];simp[auY]) (by simp[hi]));rw[auH hg1 hv1 i];simpa using this
 have Q:∀i n,Ts.kR[i]?=some n->W.cell? ⟨6,i,none⟩=some (.int .i64 n):=fun i n hi=>by
  have:=Dw.dN 3 hd2 (Dw.jB (l:=Ts.kR.map fun n=>.int .i64 n) (i:=i) (v:=.int .i64 n) (by rw[Ts.EF];simp[auY]) (by simp[hi]));rw[auH hg2 hv2 i];simpa using this
 have S:∀i n,Hc.DU[i]?=some n->W.cell? ⟨13,i,none⟩=some (.int .u32 n):=fun i n hi=>by
  have:=Dw.dN 3 hd3 (Dw.jB (l:=Hc.DU.map fun n=>.int .u32 n) (i:=i) (v:=.int .u32 n) (by rw[Hc.Jl];simp[auY]) (by simp[hi]));rw[auH hg3 hv3 i];simpa using this
 have O:∀i n,Hc.kR[i]?=some n->W.cell? ⟨10,i,none⟩=some (.int .i64 n):=fun i n hi=>by
  have:=Dw.dN 3 hd4 (Dw.jB (l:=Hc.kR.map fun n=>.int .i64 n) (i:=i) (v:=.int .i64 n) (by rw[Hc.Jm];simp[auY]) (by simp[hi]));rw[auH hg4 hv4 i];simpa using this
 have R:∀i n,Mp.qd[i]?=some n->W.cell? ⟨7,i,none⟩=some (.int .i64 n):=fun i n hi=>by
  have:=Dw.dN 5 hd5 (Dw.jB (l:=Mp.qd.map fun n=>.int .i64 n) (i:=i) (v:=.int .i64 n) (by rw[OC];simp[auY]) (by simp[hi]));rw[auH hg5 hv5 i];simpa using this
 have hs:=Dw.lt_of_cell (S 0 _ rfl);have hr:=Dw.lt_of_cell (R 0 _ rfl);exact⟨⟨T,⟨S,O,hs,Dw.lt_of_cell (O 0 _ rfl)⟩,Dw.lt_of_cell (T.shapes 0 _ rfl),Dw.lt_of_cell (T.uppers 0 _ rfl)⟩,⟨R,hr⟩,hr,⟨S,hs⟩,Q,Dw.lt_of_cell (Q 0 _ rfl)⟩
end En
end Go.Proofs.YtiadhbmnfjfioaaGreatDoor
