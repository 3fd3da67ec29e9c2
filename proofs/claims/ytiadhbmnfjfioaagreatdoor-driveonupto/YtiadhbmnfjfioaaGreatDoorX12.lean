/- ours -/
import Derived.Test.YtiadhbmnfjfioaaGreatDoorX11
set_option linter.unusedVariables false
set_option linter.unusedSimpArgs false
set_option maxHeartbeats 8000000
set_option maxRecDepth 100000
set_option linter.unusedSectionVars false
namespace Go.Proofs.YtiadhbmnfjfioaaGreatDoor
open Go.Proofs.Tryz hiding d1 d2 d3 d4 d5 t0 t1 t2 t3 t4 t5
open Go.ChangeShapes Go.WideShapes Go.ChangeAt Go.RowKit
variable{fr:Bool}{fn:Func}{pu sl:Int}{K:IntKind}{ps:List (Int×Int)}{l t s L:List Nat}{m:List UInt8}{hn pn j iK k n c pc u p b base:Nat}{f:Nat×Nat}{ma ha pa a:Option Addr}{P:Program}{v:Value}{w w':World}
namespace En
variable[Inhabited Hc.bN]
open Mm Hh Hc Mc
variable{hs:List Hv}
theorem mq {p1 p2 t:Tmp}{ty1 ty2:TypeId}(h:fn.results=#[.cell p1 ty1,.cell p2 ty2,.tmp t])(tmps:Array Value)(w:World)(g1 g2:Nat)(tt1 tt2:TypeId)(cs1 cs2:Array Value)(fr1 fr2:Nat×Nat)(d1 d2:TypeDesc)
  (v:Value)(hp1:tmps.getD p1 undef=.pointer (some ⟨g1,0,none⟩))(hp2:tmps.getD p2 undef=.pointer (some ⟨g2,0,none⟩))(hv:tmps.getD t undef=v)(hg1:w.heap[g1]?=some (.cells cs1 tt1 fr1))(hg2:w.heap[g2]?=some (.cells cs2 tt2 fr2))
  (hu1:P.underlying ty1=some d1)(hd1:(match d1 with|.struct _|.array _ _=>true|_=>false)=true)(hi1:(P.info? ty1).map (·.size)=some cs1.size)
  (hu2:P.underlying ty2=some d2)(hd2:(match d2 with|.struct _|.array _ _=>true|_=>false)=true)(hi2:(P.info? ty2).map (·.size)=some cs2.size):
  (results fn tmps).run P w=.ok (.tuple #[.agg cs1,.agg cs2,v]) w:=by
 subst hv;have hp1':tmps[p1]?.getD undef=.pointer (some ⟨g1,0,none⟩):=by simpa using hp1
 have ahE:tmps[p2]?.getD undef=.pointer (some ⟨g2,0,none⟩):=by simpa using hp2
 simp[results,h,hp1',ahE,asAddr,au4 w g1 tt1 ty1 cs1 fr1 d1 hg1 hu1 hd1 hi1,au4 w g2 tt2 ty2 cs2 fr2 d2 hg2 hu2 hd2 hi2]
theorem uQ {A B C:Array Value}{t1 t2 t3:Nat}(G:Gr (((w.alloc (.cells A t1)).alloc (.cells B t2)).alloc (.cells C t3)) w'):w'.heap[w.heap.size]?=some (.cells A t1 (0,0))/\w'.heap[w.heap.size+1]?=some (.cells B t2 (0,0))/\w'.heap[w.heap.size+1+1]?=some (.cells C t3 (0,0)):=by
 have e1:(w.alloc (.cells A t1)).heap.size=w.heap.size+1:=aq;have e2:((w.alloc (.cells A t1)).alloc (.cells B t2)).heap.size=w.heap.size+1+1:=aq;have a:=at5 w (.cells A t1);have b:=at5 (w.alloc (.cells A t1)) (.cells B t2);have c:=at5 ((w.alloc (.cells A t1)).alloc (.cells B t2)) (.cells C t3);rw[e1]at b;rw[e2]at c;exact⟨Kc.aX (Gr.trans (br.alloc _) G) a,Kc.aX (Gr.trans br G) b,Kc.aX G c⟩
theorem UI:(prog.info? 47).map (·.size)=some 4:=al
theorem aak (mc hc pc:Nat)(mn:Nat)(room:Int)(lU:m.length=mn)(H:Hs w ha hn hs)(P:Ps w pa pn ps)(b1:mn<=140737488351232)(b2:hn<=140737488351232)(b3:pn<=140737488351232)(hno:¬wrong m hs ps=0):aaj w ma ha pa mn mc hn hc pn pc room (wrong m hs ps):=by
 intro W0 G0;have HN:Hid (∀W:World,Gr W0 W->Calls prog 22 #[.agg #[.slice ma mn mc,.slice ha hn hc],.slice pa pn pc] W fun e w'=>e=.returned (.tuple #[.agg #[.slice none 0 0,.slice none 0 0,.slice none 0 0,.int .i64 0],.int .i64 (wrong m hs ps)])/\Gr W w'):=fun W G=>rJ mc hc pc mn lU (H.of (G0.trans G)) (P.of (G0.trans G)) b1 b2 b3 hno
 clear H P lU G0;generalize wrong m hs ps=E at *
 have hE:(E !=0)=true:=by simpa using hno
 clear hno;refine au0 (R:=fun e w'=>e=.returned (.tuple #[.agg #[.slice none 0 0,.slice none 0 0,.slice none 0 0,.int .i64 0],.agg #[.int .i64 0,.slice none 0 0,.int .i64 0,.int .i64 0],.int .i64 E])/\Gr W0 w') ?_ (fun e w' h=>⟨_,none,0,h.1,BV _,h.2⟩);go_enter func12,ntmps12;go_wp2_with fail;refine(HN _ ((br.alloc _).alloc _)).mono ?_;rintro e w1 ⟨rfl,G1⟩;obtain⟨_,u1,u2⟩:=uQ G1;have rQ:=kH u1;have sD:=kH u2;have aU:=kH (((br.alloc _).alloc _).trans G1);have HA1:Hid (∀Y:Array Value,(w1.alloc (.cells Y 84)).heap[W0.heap.size+1]?=some (.cells #[.slice none 0 0,.slice none 0 0,.slice none 0 0,.int .i64 0] 47 (0,0))):=fun Y=>Kc.aX br rQ
 have HA2:Hid (∀Y Z:Array Value,((w1.alloc (.cells Y 84)).setRow (W0.heap.size+1) Z).heap[W0.heap.size+1+1]?=some (.cells #[.int .i64 0,.slice none 0 0,.int .i64 0,.int .i64 0] 54 (0,0))):=fun Y Z=>(auo _ _ _ _ ab).trans (Kc.aX br sD)
 go_wp2_with (first
  |(refine auf rfl 47 _ _ rfl (W0.heap.size+1) #[.slice none 0 0,.slice none 0 0,.slice none 0 0,.int .i64 0] rfl rfl 47 #[.slice none 0 0,.slice none 0 0,.slice none 0 0,.int .i64 0] ?rr1 UI rfl al ?_;(case rr1=>exact HA1 _))
  |(refine auf rfl 54 _ _ rfl (W0.heap.size+1+1) #[.int .i64 0,.slice none 0 0,.int .i64 0,.int .i64 0] rfl rfl 54 #[.int .i64 0,.slice none 0 0,.int .i64 0,.int .i64 0] ?rr2 Kc.wF rfl al ?_;(case rr2=>exact HA2 _ _)))
 refine auc (v:=.tuple #[.agg #[.slice none 0 0,.slice none 0 0,.slice none 0 0,.int .i64 0],.agg #[.int .i64 0,.slice none 0 0,.int .i64 0,.int .i64 0],.int .i64 E]) (mq results12 _ _ (W0.heap.size+1) (W0.heap.size+1+1) 47 54 #[.slice none 0 0,.slice none 0 0,.slice none 0 0,.int .i64 0] #[.int .i64 0,.slice none 0 0,.int .i64 0,.int .i64 0] (0,0) (0,0) _ _ _ rfl rfl rfl ((auo _ _ _ _ ab).trans (aup _ _ _ _ _ (0,0) (HA1 _))) (aup _ _ _ _ _ (0,0) (HA2 _ _)) underlying47 rfl UI underlying54 rfl Kc.wF) rfl ⟨rfl,?_⟩;exact ag (ag (aU.alloc _) ab _) ab _
theorem UJ (mc hc pc:Nat)(mn:Nat)(room:Int)(M:Mem w ma mn m)(hcap:ma=none->mc=0)(H:Hs w ha hn hs)(P:Ps w pa pn ps)(hy:wrong m hs ps=0)(hr:room<0\/¬room<0/\64<room)(UK:Hc.mb<=w.heap.size):aaj w ma ha pa mn mc hn hc pn pc room 3:=by
 intro W0 G0;obtain⟨b1,b2,b4,_,b3,_⟩:=kE hy;have lY:=M.len;have Xp:=H.len;have hpl:=P.len;have HN:Hid (∀W:World,Gr W0 W->Calls prog 22 #[.agg #[.slice ma mn mc,.slice ha hn hc],.slice pa pn pc] W fun e w'=>∃a c gh hc,e=.returned (.tuple #[.agg #[.slice a mn c,.slice (some ⟨gh,0,none⟩) hn hc,.slice none 0 0,.int .i64 0],.int .i64 0])/\Own w' Hc.mb (.slice a mn c) m/\W.heap.size<=gh/\(bQ w' gh hs/\Zh w' gh hc)/\Gr W w'):=fun W G=>kQ mc hc pc mn (M.of (G0.trans G)) hcap (H.of (G0.trans G)) (P.of (G0.trans G)) ab hy ab ab ab (apr UK (apr G0.size G.size))
 have sM:Hid (∀W:World,Calls prog 24 #[.int .i64 room] W fun e w'=>e=.returned (.tuple #[.agg #[.int .i64 0,.slice none 0 0,.int .i64 0,.int .i64 0],.int .i64 3])/\Gr W w'):=fun W=>Kc.Ga W room 0 3 (by rcases hr with h|⟨h1,h2⟩;exact .inl ⟨h,rfl,rfl⟩;exact .inr (.inl ⟨h1,h2,rfl,rfl⟩))
 refine au0 (R:=fun e w'=>e=.returned (.tuple #[.agg #[.slice none 0 0,.slice none 0 0,.slice none 0 0,.int .i64 0],.agg #[.int .i64 0,.slice none 0 0,.int .i64 0,.int .i64 0],.int .i64 3])/\Gr W0 w') ?_ (fun e w' h=>⟨_,none,0,h.1,BV _,h.2⟩);go_enter func12,ntmps12;go_wp2_with fail;refine(HN _ ((br.alloc _).alloc _)).mono ?_;rintro e w1 ⟨a1,c1,gh,hc1,rfl,_,_,_,G1⟩;obtain⟨_,u1,u2⟩:=uQ G1;have rQ:=kH u1;have sD:=kH u2;have aU:=kH (((br.alloc _).alloc _).trans G1);go_wp2_with fail;refine(sM _).mono ?_;rintro e w2 ⟨rfl,G2⟩;have HG2:=kH (((Gr.refl w1).alloc _).trans G2);have HA1:Hid (∀Y:Array Value,(w2.alloc (.cells Y 54)).heap[W0.heap.size+1]?=some (.cells #[.slice none 0 0,.slice none 0 0,.slice none 0 0,.int .i64 0] 47 (0,0))):=fun Y=>Kc.aX (HG2.alloc _) rQ
 have HA2:Hid (∀Y Z:Array Value,((w2.alloc (.cells Y 54)).setRow (W0.heap.size+1) Z).heap[W0.heap.size+1+1]?=some (.cells #[.int .i64 0,.slice none 0 0,.int .i64 0,.int .i64 0] 54 (0,0))):=fun Y Z=>(auo _ _ _ _ ab).trans (Kc.aX (HG2.alloc _) sD)
 go_wp2_with (first
  |(refine auf rfl 47 _ _ rfl (W0.heap.size+1) #[.slice none 0 0,.slice none 0 0,.slice none 0 0,.int .i64 0] rfl rfl 47 #[.slice none 0 0,.slice none 0 0,.slice none 0 0,.int .i64 0] ?rr1 UI rfl al ?_;(case rr1=>exact HA1 _))
  |(refine auf rfl 54 _ _ rfl (W0.heap.size+1+1) #[.int .i64 0,.slice none 0 0,.int .i64 0,.int .i64 0] rfl rfl 54 #[.int .i64 0,.slice none 0 0,.int .i64 0,.int .i64 0] ?rr2 Kc.wF rfl al ?_;(case rr2=>exact HA2 _ _)))
 refine auc (v:=.tuple #[.agg #[.slice none 0 0,.slice none 0 0,.slice none 0 0,.int .i64 0],.agg #[.int .i64 0,.slice none 0 0,.int .i64 0,.int .i64 0],.int .i64 3]) (mq results12 _ _ (W0.heap.size+1) (W0.heap.size+1+1) 47 54 #[.slice none 0 0,.slice none 0 0,.slice none 0 0,.int .i64 0] #[.int .i64 0,.slice none 0 0,.int .i64 0,.int .i64 0] (0,0) (0,0) _ _ _ rfl rfl rfl ((auo _ _ _ _ ab).trans (aup _ _ _ _ _ (0,0) (HA1 _))) (aup _ _ _ _ _ (0,0) (HA2 _ _)) underlying47 rfl UI underlying54 rfl Kc.wF) rfl ⟨rfl,?_⟩;exact ag (ag ((aU.trans HG2).alloc _) ab _) ab _
structure Rj (m:List UInt8) (hs:List Hv) (ps:List (Int×Int)) (room:Int) (j:Nat) (L:List Kc.Bv) (pu sl:Int) (iK:Nat):Prop where
 ek:Ek room (aL ⟨hs,m,[],0⟩ ((nums ps).take j)).m L pu sl iK
 hi:iK<=(aL ⟨hs,m,[],0⟩ ((nums ps).take j)).steps
 few:Few (aL ⟨hs,m,[],0⟩ ((nums ps).take j)) (400*j)
 none:j=0->L=[]/\iK=0
 did:0<j->TA m hs ps->0<iK
theorem Rj.on {room:Int}{L L':List Kc.Bv}{kZ sl':Int}{m2 mn:Nat}(R:Rj m hs ps room j L pu sl iK)(F:Fit (aL ⟨hs,m,[],0⟩ ((nums ps).take j)) hn mn)(hk:k<hn)(hn4:n≤400)(hp:ps[j]?=some ((k:Int),(n:Int)))(K:Ek room (runs (aL ⟨hs,m,[],0⟩ ((nums ps).take j)) k n).m L' kZ sl' m2)(h1:iK<=m2/\m2<=(runs (aL ⟨hs,m,[],0⟩ ((nums ps).take j)) k n).steps)(h2:L=[]->0<n->(at' (aL ⟨hs,m,[],0⟩ ((nums ps).take j)) k).state=0->0<(Bk.blk (aL ⟨hs,m,[],0⟩ ((nums ps).take j)).m (at' (aL ⟨hs,m,[],0⟩ ((nums ps).take j)) k).pc 16 0).length->iK<m2):aL ⟨hs,m,[],0⟩ ((nums ps).take (j+1))=runs (aL ⟨hs,m,[],0⟩ ((nums ps).take j)) k n/\Rj m hs ps room (j+1) L' kZ sl' m2:=by
 have e:aL ⟨hs,m,[],0⟩ ((nums ps).take (j+1))=runs (aL ⟨hs,m,[],0⟩ ((nums ps).take j)) k n:=by
  rw[BU hp,uj,jc];simp only[apG];rfl
 refine⟨e,by rw[e];exact K,by rw[e];exact h1.2,?_,fun h=>absurd h ab,fun _ D=>?_⟩
 ·rw[e,pO (by rw[F.len];exact hk) n,show 400*(j+1)=400*j+400 by omega];have:=Gu n (pQ F hk);have e0:(w0 (aL ⟨hs,m,[],0⟩ ((nums ps).take j)) k).n=0:=rfl;exact OC R.few this.1 ab
 ·by_cases hj:j=0
  ·subst hj;obtain⟨hL,hm⟩:=R.none rfl;obtain⟨p,h,d1,d2,d3,d4,d5⟩:=D;rw[hp]at d1;injection d1 with d1;subst d1;simp only[apG]at d3 d2;have ea:at' (aL ⟨hs,m,[],0⟩ ((nums ps).take 0)) k=h:=by
    show hs.getD k hN=h
    simp[List.getD,d3]
   have:=h2 hL ab (by rw[ea];exact d4) (by rw[ea];exact d5);omega
  ·have:=R.did ab D;omega
theorem Rj.kept {room:Int}{L:List Kc.Bv}(R:Rj m hs ps room j L pu sl iK)(hj:ps.length<=j):Kept room (aL ⟨hs,m,[],0⟩ ((nums ps).take j)).m (TA m hs ps) L pu sl:=by
 refine⟨R.ek.cok,R.ek.fresh,fun _ D=>?_⟩;have h0:0<j:=by
  obtain⟨p,h,d1,_⟩:=D;have:=(apj.1 d1).1;omega
 have h1:=R.did h0 D;have h2:=R.ek.cnt;have h3:=R.ek.p0;have h4:=R.ek.s0;by_cases hL:L=[]
 ·subst hL;simp at h2;omega
 ·exact .inl hL
theorem UL (mc hc pc:Nat)(mn:Nat)(room:Int)(T:nI w.heap.size w)(M:Mem w ma mn m)(hcap:ma=none->mc=0)(H:Hs w ha hn hs)(P:Ps w pa pn ps)(hy:wrong m hs ps=0)(hr0:0<=room)(hr1:room<=64)(UK:Hc.mb<=w.heap.size):ad5 w ma ha pa mn mc hn hc pn pc room (aL ⟨hs,m,[],0⟩ (nums ps)) (Kept room (aL ⟨hs,m,[],0⟩ (nums ps)).m (TA m hs ps)):=by
 intro W0 G0;obtain⟨b1,b2,b4,ze,b3,hpk⟩:=kE hy;have lY:=M.len;have Xp:=H.len;have hpl:=P.len;have HN:Hid (∀W:World,Gr W0 W->Calls prog 22 #[.agg #[.slice ma mn mc,.slice ha hn hc],.slice pa pn pc] W fun e w'=>∃a c gh hc,e=.returned (.tuple #[.agg #[.slice a mn c,.slice (some ⟨gh,0,none⟩) hn hc,.slice none 0 0,.int .i64 0],.int .i64 0])/\Own w' Hc.mb (.slice a mn c) m/\W.heap.size<=gh/\(bQ w' gh hs/\Zh w' gh hc)/\Gr W w'):=fun W G=>kQ mc hc pc mn (M.of (G0.trans G)) hcap (H.of (G0.trans G)) (P.of (G0.trans G)) ab hy ab ab ab (apr UK (apr G0.size G.size))
 have sM:Hid (∀W:World,_):=fun W=>Kc.Ga W room room 0 (.inr (.inr ⟨ab,ab,rfl,rfl⟩))
 have HF0:Hid (Fit ⟨hs,m,[],0⟩ hn mn):=⟨Xp,lY,fun h hm=>⟨H.ok h hm,ze h hm⟩⟩;have HP:=kH (P.of G0);have Gf:=kH hpl;have HPK:Hid (∀p∈ps,0<=p.1/\p.1<hn/\0<=p.2/\p.2<=400):=by rw[Xp]at hpk;exact hpk
 have xD:=kH Xp;have HT:=kH (T.below G0);have hw0:=G0.size;have ahH:=kH (apr UK G0.size);have c4:hn<=4:=ab;have m4:mn<=4096:=ab;have p4:pn<=300:=ab;obtain⟨tb,htb⟩:∃tb:Nat,tb=w.heap.size:=⟨_,rfl⟩;rw[<-htb]at HT hw0;have hmm:=@run_makeMap prog;go_enter func12,ntmps12;go_wp2_with fail;refine(HN _ ((br.alloc _).alloc _)).mono ?_;rintro e w1 ⟨a1,c1,gh,hc1,rfl,O1,hgh,R1,G1⟩;obtain⟨_,u1,u2⟩:=uQ G1;have rQ:=kH u1;have sD:=kH u2;have aU:=kH (((br.alloc _).alloc _).trans G1);have TM:=kH O1;have HR1:=kH R1.1;have HZ1:=kH R1.2;have UM:W0.heap.size+3<=gh:=by simpa using hgh
 go_wp2_with fail;refine(sM _).mono ?_;rintro e w2 ⟨rfl,G2⟩;have HG2:=kH (((Gr.refl w1).alloc _).trans G2);have HB2:=kH (Kc.aX G2 (at5 w1 _));have k0:∀o,(w2.alloc o).cell? ⟨w1.heap.size,0,none⟩=some (.slice a1 mn c1):=fun o=>atZ _ _ _ _ _ _ (Kc.aX br HB2)
 have k1:∀o,(w2.alloc o).cell? ⟨w1.heap.size,1,none⟩=some (.slice (some ⟨gh,0,none⟩) hn hc1):=fun o=>atZ _ _ _ _ _ _ (Kc.aX br HB2)
 have k2:∀o,(w2.alloc o).cell? ⟨w1.heap.size,2,none⟩=some (.slice none 0 0):=fun o=>atZ _ _ _ _ _ _ (Kc.aX br HB2)
 have k3:∀o,(w2.alloc o).cell? ⟨w1.heap.size,3,none⟩=some (.int .i64 0):=fun o=>atZ _ _ _ _ _ _ (Kc.aX br HB2)
 go_wp2_with fail;obtain⟨g,hg⟩:∃g:Nat,g=w2.heap.size+1+1:=⟨_,rfl⟩;obtain⟨mb,hmb⟩:∃mb:Nat,mb=w2.heap.size+1:=⟨_,rfl⟩;refine Kc.Bl (fun W=>Ew 0 W (W0.heap.size+3) g room (.slice a1 mn c1) gh hc1 (.slice none 0 0) none 0 0 mb 0 (.map []) ⟨hs,m,[],0⟩ [] 0 0/\W.heap[W0.heap.size+1]?=some (.cells #[.slice none 0 0,.slice none 0 0,.slice none 0 0,.int .i64 0] 47 (0,0))/\W.heap[W0.heap.size+1+1]?=some (.cells #[.int .i64 0,.slice none 0 0,.int .i64 0,.int .i64 0] 54 (0,0))/\Gr W0 W) ?_ ?_
 ·have hs1:W0.heap.size+2<w1.heap.size:=by have:=(apk.1 sD).1;omega
  have hs2:=HG2.size;have e1:(w2.alloc (.cells #[.int .i64 room,.slice none 0 0,.int .i64 0,.int .i64 0] 54)).heap.size=w2.heap.size+1:=aq;have e2:((w2.alloc (.cells #[.int .i64 room,.slice none 0 0,.int .i64 0,.int .i64 0] 54)).alloc (.map #[] 0)).heap.size=w2.heap.size+1+1:=aq;have GA:∀o1 o2 o3:Obj,Gr w1 (((w2.alloc o1).alloc o2).alloc o3):=fun o1 o2 o3=>((HG2.alloc _).alloc _).alloc _
  have hblk:=at5 ((w2.alloc (.cells #[.int .i64 room,.slice none 0 0,.int .i64 0,.int .i64 0] 54)).alloc (.map #[] 0)) (.cells #[.slice a1 mn c1,.slice (some ⟨gh,0,none⟩) hn hc1,.slice none 0 0,.int .i64 0,.int .i64 room,.slice none 0 0,.int .i64 0,.int .i64 0,.map (some (w2.heap.size+1))] 94);have hmap:=(World.ownsMap_made (w2.alloc (.cells #[.int .i64 room,.slice none 0 0,.int .i64 0,.int .i64 0] 54)) prog 37 Rh).alloc (.cells #[.slice a1 mn c1,.slice (some ⟨gh,0,none⟩) hn hc1,.slice none 0 0,.int .i64 0,.int .i64 room,.slice none 0 0,.int .i64 0,.int .i64 0,.map (some (w2.heap.size+1))] 94);rw[e2]at hblk;rw[e1]at hmap;refine⟨⟨⟨an,an,an,ab,?_,gT TM (GA _ _ _),UM,HR1.of (GA _ _ _),aur _ _ _ _,⟨HZ1.of (GA _ _ _),by have:=ahH;omega⟩⟩,Kc.NI _ _ _,apn _,ab,?_,fun b hb=>(by cases hb)⟩,Kc.aX (GA _ _ _) rQ,Kc.aX (GA _ _ _) sD,aU.trans (GA _ _ _)⟩
  ·rw[hg,hmb];show _=some (Obj.cells #[.slice a1 mn c1,.slice (some ⟨gh,0,none⟩) hs.length hc1,.slice none 0 0,.int .i64 ((0:Nat):Int),.int .i64 room,.slice none 0 0,.int .i64 0,.int .i64 0,.map (some (w2.heap.size+1))] 94 (0,0))
   rw[xD.out];exact hblk
  ·rw[hmb];exact hmap
 rw[<-hg,<-hmb];clear hg hmb k0 k1 k2 k3 HB2 HG2 rQ sD aU TM HR1 UM hmm;rintro W3 ⟨E3,u1,u2,G3⟩;have rQ:=kH u1;have sD:=kH u2;have fQ:=kH G3;have Rb:Hid (Ev 0 W3 (W0.heap.size+3) g room ⟨hs,m,[],0⟩ [] 0 0 0):=⟨_,_,_,_,_,_,_,_,_,E3⟩;have hb3:W0.heap.size+3<=W3.heap.size:=E3.ay;have HR0:Hid (Rj m hs ps room 0 [] 0 0 0):=⟨Ek.nil hr0 _,apF _,⟨apn _,apn _⟩,fun _=>⟨rfl,rfl⟩,fun h=>absurd h ab⟩;have Ze:Hid (∀V:World,Below (W0.heap.size+3) W3 V->Gr W0 V/\V.heap[W0.heap.size+1]?=some (.cells #[.slice none 0 0,.slice none 0 0,.slice none 0 0,.int .i64 0] 47 (0,0))/\V.heap[W0.heap.size+1+1]?=some (.cells #[.int .i64 0,.slice none 0 0,.int .i64 0,.int .i64 0] 54 (0,0))):=fun V B=>⟨xC fQ B ab,(B.block _ ab).trans rQ,(B.block _ ab).trans sD⟩
 have CR:Hid (∀j,Fit (aL ⟨hs,m,[],0⟩ ((nums ps).take j)) hn mn):=fun j=>pM _ (fun q hq=>by
  obtain⟨r,hr,rfl⟩:=apK.1 (aq7 hq);have:=HPK r hr;show r.1.toNat<hn
  omega) HF0
 clear u1 u2 G3 E3 rQ sD fQ HF0 xD;go_loopw [42] (fun i wr=>∃j:Nat,j<=pn/\i=.int .i64 j/\(∃L pu sl iK,Ev 0 wr (W0.heap.size+3) g room (aL ⟨hs,m,[],0⟩ ((nums ps).take j)) L pu sl iK/\Rj m hs ps room j L pu sl iK)/\Below (W0.heap.size+3) W3 wr) (fun i _=>pn-(intOf i).toNat)
 case atStart=>exact⟨0,apF _,rfl,⟨[],0,0,0,Rb,HR0⟩,auC _ _⟩
 case round=>
  obtain⟨j,hj,rfl,⟨L,pu,sl,iK,E4,R4⟩,B4⟩:=hrel;have Ri:=kH E4;have HR4:=kH R4;have sj:=kH B4;have fC:=kH ((Ze _ B4).1);have hb4:=apr hb3 B4.size;by_cases hlt:j<pn
  ·obtain⟨p,hp⟩:∃p,ps[j]?=some p:=⟨_,api (by rw[Gf.out];exact hlt)⟩;obtain⟨z0,z1,z2,z3⟩:=HPK p (aps hp);obtain⟨b',o',rfl,hb',hcell'⟩:=HP.spot ab;have q0:=(fC.cell _ (by exact hb')).trans (hcell' j p hp).1;have q1:=(fC.cell _ (by exact hb')).trans (hcell' j p hp).2;clear hcell';obtain⟨p1,p2⟩:=p;simp only at *
   obtain⟨k,rfl⟩:=apt z0;obtain⟨n,rfl⟩:=apt z2;have hk:k<hn:=ab;have hn4:n<=400:=ab;have HTu:Hid (∀V:World,Gr wr V->Calls prog 25 #[.pointer (some ⟨g,0,none⟩),.agg #[.int .i64 k,.int .i64 n]] V fun e w'=>e=.returned (.tuple #[])/\(∃L' kZ sl' m2,Ev 0 w' (W0.heap.size+3) g room (aL ⟨hs,m,[],0⟩ ((nums ps).take (j+1))) L' kZ sl' m2/\Rj m hs ps room (j+1) L' kZ sl' m2)/\Below (W0.heap.size+3) V w'):=fun V G=>by
    have f1:=HR4.few.1;have f2:=HR4.few.2;refine(uP (Ri.of G) HR4.ek (HT.below (aun (fC.trans G) hw0)) ab (CR j) m4 c4 hr0 hr1 HR4.hi f1 ab hk hn4).mono ?_;rintro e w' ⟨rfl,⟨L',kZ,sl',m2,E',K',h1,h2⟩,B'⟩;obtain⟨x1,x2⟩:=HR4.on (CR j) hk hn4 hp K' h1 h2;exact⟨rfl,⟨L',kZ,sl',m2,by rw[x1];exact E',x2⟩,B'⟩
   clear z0 z1 z2 z3 hp Ri HR4;go_wp2_with fail;refine(HTu _ br).mono ?_;rintro e w5 ⟨rfl,V5,B5⟩;have HV5:=kH V5;have KX:=kH (sj.trans ((aun ((Gr.refl wr).alloc _) hb4).trans B5));go_wp2_with fail;go_roundw
   case rel=>exact⟨j+1,ab,by go_num,HV5,KX⟩
   case measure=>simp[intOf];omega
  ·have ej:ps.length<=j:=by rw[Gf.out];omega
   have HE:Hid ((nums ps).take j=nums ps):=by unfold Hid;rw[ap0 (by unfold nums;rw[apY];exact ej)]
   have Xa:Hid (Kept room (aL ⟨hs,m,[],0⟩ (nums ps)).m (TA m hs ps) L pu sl):=by have:=HR4.kept ej;rw[HE.out]at this;exact this
   have HFs:Hid (Fit (aL ⟨hs,m,[],0⟩ (nums ps)) hn mn):=by have:=CR j;rw[HE.out]at this;exact this
   obtain⟨Mv,gh,hc1,Ov,a,n,cap,mb',D,E5⟩:=Ri;rw[HE.out]at E5;generalize hS:aL ⟨hs,m,[],0⟩ (nums ps)=s at *
   have HSS:=kH hS;obtain⟨va,vc,rfl, -⟩:=E5.bw.mem.mem;obtain⟨oa,oc,rfl⟩:=(az E5.bw.out).2.2;have Gq:=kH E5;have UG:=kH HFs.mem;have HHs:=kH HFs.len;obtain⟨ol,hol⟩:∃ol:Nat,ol=s.out.length:=⟨_,rfl⟩;obtain⟨st,hst⟩:∃st:Int,st=s.steps:=⟨_,rfl⟩;have HOS:Hid (ol=s.out.length/\st=s.steps):=⟨hol,hst⟩;have HS:Hid ((fun W=>W.cell? ⟨g,0,none⟩=some (.slice va mn vc)/\W.cell? ⟨g,1,none⟩=some (.slice (some ⟨gh,0,none⟩) hn hc1)/\W.cell? ⟨g,2,none⟩=some (.slice oa ol oc)/\W.cell? ⟨g,3,none⟩=some (.int .i64 st)/\W.cell? ⟨g,4,none⟩=some (.int .i64 room)/\W.cell? ⟨g,5,none⟩=some (.slice a n cap)/\W.cell? ⟨g,6,none⟩=some (.int .i64 pu)/\W.cell? ⟨g,7,none⟩=some (.int .i64 sl)) wr):=by
    have x0:=E5.bw.c0;have x1:=E5.bw.c1;have x2:=E5.bw.c2;have x3:=E5.bw.c3;rw[UG.out]at x0;rw[HHs.out]at x1;rw[<-hol]at x2;rw[<-hst]at x3;exact⟨x0,x1,x2,x3,E5.c4,E5.c5,E5.c6,E5.c7⟩
   obtain⟨GW,U1,U2⟩:=Ze _ sj;have zT:=kH GW;have rQ:=kH U1;have sD:=kH U2;have hgb:=E5.bw.bg;have fO:Hid (∀(V:World),(∀i:Nat,V.cell? ⟨g,i,none⟩=wr.cell? ⟨g,i,none⟩)->(fun W=>W.cell? ⟨g,0,none⟩=some (.slice va mn vc)/\W.cell? ⟨g,1,none⟩=some (.slice (some ⟨gh,0,none⟩) hn hc1)/\W.cell? ⟨g,2,none⟩=some (.slice oa ol oc)/\W.cell? ⟨g,3,none⟩=some (.int .i64 st)/\W.cell? ⟨g,4,none⟩=some (.int .i64 room)/\W.cell? ⟨g,5,none⟩=some (.slice a n cap)/\W.cell? ⟨g,6,none⟩=some (.int .i64 pu)/\W.cell? ⟨g,7,none⟩=some (.int .i64 sl)) V):=fun V h=>by
    obtain⟨y0,y1,y2,y3,y4,y5,y6,y7⟩:=HS;exact⟨(h 0).trans y0,(h 1).trans y1,(h 2).trans y2,(h 3).trans y3,(h 4).trans y4,(h 5).trans y5,(h 6).trans y6,(h 7).trans y7⟩
   go_wp2_with fail;refine aut (S:=fun W=>W.cell? ⟨g,0,none⟩=some (.slice va mn vc)/\W.cell? ⟨g,1,none⟩=some (.slice (some ⟨gh,0,none⟩) hn hc1)/\W.cell? ⟨g,2,none⟩=some (.slice oa ol oc)/\W.cell? ⟨g,3,none⟩=some (.int .i64 st)/\W.cell? ⟨g,4,none⟩=some (.int .i64 room)/\W.cell? ⟨g,5,none⟩=some (.slice a n cap)/\W.cell? ⟨g,6,none⟩=some (.int .i64 pu)/\W.cell? ⟨g,7,none⟩=some (.int .i64 sl)) al ?_ (fun hHeld=>?_)
   ·exact fO _ (fun i=>rfl)
   have aY:=kH hHeld;refine tK 0 (.pointer (some ⟨g,0,none⟩)) aY ?_;refine tK 1 (.pointer (some ⟨g,0,none⟩)) aY ?_;refine tK 2 (.agg #[.slice va mn vc,.slice (some ⟨gh,0,none⟩) hn hc1,.slice oa ol oc,.int .i64 st]) aY ?_;refine tK 3 (.pointer (some ⟨g,4,none⟩)) aY ?_;refine tK 4 (.agg #[.int .i64 room,.slice a n cap,.int .i64 pu,.int .i64 sl]) aY ?_;have oQ:Hid (∀i:Nat,(wr.drew.setRow (W0.heap.size+1) #[.slice va mn vc,.slice (some ⟨gh,0,none⟩) hn hc1,.slice oa ol oc,.int .i64 st]).cell? ⟨g,i,none⟩=wr.cell? ⟨g,i,none⟩):=fun i=>aui (auo _ _ _ _ (by show g≠W0.heap.size+1;omega))
   have ll:Hid (∀i:Nat,((wr.drew.setRow (W0.heap.size+1) #[.slice va mn vc,.slice (some ⟨gh,0,none⟩) hn hc1,.slice oa ol oc,.int .i64 st]).setRow (W0.heap.size+1+1) #[.int .i64 room,.slice a n cap,.int .i64 pu,.int .i64 sl]).cell? ⟨g,i,none⟩=wr.cell? ⟨g,i,none⟩):=fun i=>(aui (auo _ _ _ _ (by show g≠W0.heap.size+1+1;omega))).trans (oQ i)
   have HV2:Hid ((wr.drew.setRow (W0.heap.size+1) #[.slice va mn vc,.slice (some ⟨gh,0,none⟩) hn hc1,.slice oa ol oc,.int .i64 st]).heap[W0.heap.size+1+1]?=some (.cells #[.int .i64 0,.slice none 0 0,.int .i64 0,.int .i64 0] 54 (0,0))):=(auo _ _ _ _ ab).trans sD;refine Hc.bu (i:=5) al rfl rfl 47 (.tmp 6) (.tmp 51) rfl (W0.heap.size+1) #[.slice va mn vc,.slice (some ⟨gh,0,none⟩) hn hc1,.slice oa ol oc,.int .i64 st] aw aw 47 #[.slice none 0 0,.slice none 0 0,.slice none 0 0,.int .i64 0] rQ UI rfl (DT _ _ _ _ _ _ _ _ _ _) ?_ ?_
   ·exact fO _ oQ
   refine Hc.bu (i:=6) al rfl rfl 54 (.tmp 7) (.tmp 53) rfl (W0.heap.size+1+1) #[.int .i64 room,.slice a n cap,.int .i64 pu,.int .i64 sl] ar ar 54 #[.int .i64 0,.slice none 0 0,.int .i64 0,.int .i64 0] HV2 Kc.wF rfl (Ec _ _ _ _ _ _) ?_ ?_
   ·exact fO _ ll
   refine tK 7 (.int .i64 0) (fO _ ll) ?_;refine auy al ?_ _;go_wp2_with fail;have W6:∀(k:Nat) (o:Array Value) (t:Nat) (f:Nat×Nat),t≠47->t≠54->wr.heap[k]?=some (.cells o t f)->((wr.drew.setRow (W0.heap.size+1) #[.slice va mn vc,.slice (some ⟨gh,0,none⟩) hn hc1,.slice oa ol oc,.int .i64 st]).setRow (W0.heap.size+1+1) #[.int .i64 room,.slice a n cap,.int .i64 pu,.int .i64 sl]).heap[k]?=wr.heap[k]?:=fun k o t f t1 t2 hk=>by
    rw[auo _ _ _ _ (aa hk sD.out t2),auo _ _ _ _ (aa hk rQ.out t1)];rfl
   refine auc (v:=.tuple #[.agg #[.slice va mn vc,.slice (some ⟨gh,0,none⟩) hn hc1,.slice oa ol oc,.int .i64 st],.agg #[.int .i64 room,.slice a n cap,.int .i64 pu,.int .i64 sl],.int .i64 0]) (mq results12 _ _ (W0.heap.size+1) (W0.heap.size+1+1) 47 54 #[.slice va mn vc,.slice (some ⟨gh,0,none⟩) hn hc1,.slice oa ol oc,.int .i64 st] #[.int .i64 room,.slice a n cap,.int .i64 pu,.int .i64 sl] (0,0) (0,0) _ _ _ rfl rfl rfl ((auo _ _ _ _ ab).trans (aup _ _ _ _ _ (0,0) rQ)) (aup _ _ _ _ _ (0,0) HV2) underlying47 rfl UI underlying54 rfl Kc.wF) rfl ?_;have GF:Gr W0 ((wr.drew.setRow (W0.heap.size+1) #[.slice va mn vc,.slice (some ⟨gh,0,none⟩) hn hc1,.slice oa ol oc,.int .i64 st]).setRow (W0.heap.size+1+1) #[.int .i64 room,.slice a n cap,.int .i64 pu,.int .i64 sl]):=ag (ag zT.drew ab _) ab _;obtain⟨rfl,rfl⟩:=HOS;refine⟨_,a,n,cap,pu,sl,L,rfl,?_,⟨?_,Gq.cap,?_⟩,GF⟩
   ·rw[HSS.out];refine Gv (base:=W0.heap.size+3) ?_ UG (Gq.bw.row.to fun k o f hk=>W6 k o _ f an an hk) ⟨Gq.bw.hz.1.to fun k o f hk=>W6 k o _ f an an hk,apr Gq.bw.hz.2 Gq.bw.bh⟩ HHs (aj Gq.bw.out fun k o f hk=>W6 k o _ f an an hk);have:=Gq.bw.mem.to fun k o f hk=>W6 k o _ f an an hk
    rw[UG.out]at this;exact this
   ·exact(Gq.bt.to fun k o t f _ ht hk=>W6 k o t f (by rcases ht with rfl|rfl<;>decide) (by rcases ht with rfl|rfl<;>decide) hk).bs
   ·rw[HSS.out];exact Xa
end En
namespace Bk
variable[Inhabited Hc.bN]
open Mm Hh Hc
end Bk
namespace Ts
variable[Inhabited Hc.bN]
open Mm Hc Mi Bk
open Hh hiding Rn
theorem DX : prog.globalNamed "ferrybridge/trans.operations" = some 6 := by kernel_rfl
theorem DY:(prog.globals[6]?).map (·.type)=some 258:=al
theorem EG:(List.range 28).map (Dw.look prog 3 258 (Rows.laid_ferrybridge_trans_operations (H:=Unit)))=kR.map fun n=>some (.int .i64 n):=al
end Ts
namespace Mc
open Mm Hh
variable{a:Addr}
end Mc
namespace Mc
open Mm Hh
end Mc
namespace En
variable[Inhabited Hc.bN]
open Mm Hh Hc Mc
theorem aec : prog.globalNamed "ferrybridge/micro.rows" = some 7 := by kernel_rfl
theorem aed:(prog.globals[7]?).map (·.type)=some 262:=al
theorem OD:(List.range 33).map (Dw.look prog 5 262 (Rows.laid_ferrybridge_micro_rows (H:=Unit)))=Mp.qd.map fun n=>some (.int .i64 n):=al
theorem zm {W : World}(h : laidMetH prog [("ferrybridge/decode.shapes", Rows.laid_ferrybridge_decode_shapes), ("ferrybridge/decode.uppers", Rows.laid_ferrybridge_decode_uppers), ("ferrybridge/trans.operations", Rows.laid_ferrybridge_trans_operations), ("ferrybridge/hart.sizes", Rows.laid_ferrybridge_hart_sizes), ("ferrybridge/hart.operations", Rows.laid_ferrybridge_hart_operations), ("ferrybridge/micro.rows", Rows.laid_ferrybridge_micro_rows)] W) : nI W.heap.size W := by
 rw[auZ _ _ _ al]at h;obtain⟨ps,⟨g0,t0,cs0,f0,p0,q0,hg0,ht0,hv0,hd0,⟨g1,t1,cs1,f1,p1,q1,hg1,ht1,hv1,hd1,⟨g2,t2,cs2,f2,p2,q2,hg2,ht2,hv2,hd2,⟨g3,t3,cs3,f3,p3,q3,hg3,ht3,hv3,hd3,⟨g4,t4,cs4,f4,p4,q4,hg4,ht4,hv4,hd4,⟨g5,t5,cs5,f5,p5,q5,hg5,ht5,hv5,hd5,_,_⟩,_⟩,_⟩,_⟩,_⟩,_⟩,_,_⟩:=h;obtain rfl:=aum (Dw.Fj.symm.trans hg0);obtain rfl:=aum (Dw.Fp.symm.trans hg1);obtain rfl:=aum (Ts.DX.symm.trans hg2);obtain rfl:=aum (Hc.Za.symm.trans hg3);obtain rfl:=aum (Hc.DX.symm.trans hg4);obtain rfl:=aum (aec.symm.trans hg5);obtain rfl:=aum (Dw.Fs.symm.trans ht0);obtain rfl:=aum (Dw.Fu.symm.trans ht1);obtain rfl:=aum (Ts.DY.symm.trans ht2);obtain rfl:=aum (Hc.Zb.symm.trans ht3);obtain rfl:=aum (Hc.DY.symm.trans ht4);obtain rfl:=aum (aed.symm.trans ht5);have T:Dw.nK W:=by
  refine⟨fun i v hi=>?_,fun i n hi=>?_⟩
  ·have:=Dw.dN 5 hd0 (Dw.jB Dw.sZ hi);rw[auH hg0 hv0 i];simpa using this
  ·have:=Dw.dN 3 hd1 (Dw.jB (l:=Dc.uppers.map fun n=>.int .u32 n) (i:=i) (v:=.int .u32 n) (by rw[Dw.tC];simp[auY]) (by simp[hi]));rw[auH hg1 hv1 i];simpa using this
 have Q:∀i n,Ts.kR[i]?=some n->W.cell? ⟨6,i,none⟩=some (.int .i64 n):=fun i n hi=>by
  have:=Dw.dN 3 hd2 (Dw.jB (l:=Ts.kR.map fun n=>.int .i64 n) (i:=i) (v:=.int .i64 n) (by rw[Ts.EG];simp[auY]) (by simp[hi]));rw[auH hg2 hv2 i];simpa using this
 have S:∀i n,Hc.DW[i]?=some n->W.cell? ⟨13,i,none⟩=some (.int .u32 n):=fun i n hi=>by
  have:=Dw.dN 3 hd3 (Dw.jB (l:=Hc.DW.map fun n=>.int .u32 n) (i:=i) (v:=.int .u32 n) (by rw[Hc.Jm];simp[auY]) (by simp[hi]));rw[auH hg3 hv3 i];simpa using this
 have O:∀i n,Hc.kR[i]?=some n->W.cell? ⟨10,i,none⟩=some (.int .i64 n):=fun i n hi=>by
  have:=Dw.dN 3 hd4 (Dw.jB (l:=Hc.kR.map fun n=>.int .i64 n) (i:=i) (v:=.int .i64 n) (by rw[Hc.Jn];simp[auY]) (by simp[hi]));rw[auH hg4 hv4 i];simpa using this
 have R:∀i n,Mp.qd[i]?=some n->W.cell? ⟨7,i,none⟩=some (.int .i64 n):=fun i n hi=>by
  have:=Dw.dN 5 hd5 (Dw.jB (l:=Mp.qd.map fun n=>.int .i64 n) (i:=i) (v:=.int .i64 n) (by rw[OD];simp[auY]) (by simp[hi]));rw[auH hg5 hv5 i];simpa using this
 have hs:=Dw.lt_of_cell (S 0 _ rfl);have hr:=Dw.lt_of_cell (R 0 _ rfl);exact⟨⟨T,⟨S,O,hs,Dw.lt_of_cell (O 0 _ rfl)⟩,Dw.lt_of_cell (T.shapes 0 _ rfl),Dw.lt_of_cell (T.uppers 0 _ rfl)⟩,⟨R,hr⟩,hr,⟨S,hs⟩,Q,Dw.lt_of_cell (Q 0 _ rfl)⟩
end En
namespace Ud
open Mm Hh Wd Mc
variable{s:Sh}
structure Uv where
 k:Int
 was:Hv
 fr:Int
 bs:List UInt8
 lost:List (Int×Int)
def lay (m:List UInt8) (f:Nat) (bs:List UInt8):List UInt8:=m.take f++bs++m.drop (f+bs.length)
def gives (hs:List Hv) (ls:List (Int×Int)):List Hv:=ls.foldl (fun hs l=>hs.set l.1.toNat ((hs.getD l.1.toNat hN).hold true l.2)) hs
def bX (s:List Hv×List UInt8) (u:Uv):List Hv×List UInt8:=(gives (s.1.set u.k.toNat u.was) u.lost,lay s.2 u.fr.toNat u.bs)
def bE (s:List Hv×List UInt8) (l:List Uv):List Hv×List UInt8:=l.foldr (fun u s=>bX s u) s
def gF (l:List (Nat×Int)):List (Int×Int):=l.map fun q=>((q.1:Int),q.2)
def oM (s:Sh) (k:Nat):List (Int×Int)→Uv
 | []=>⟨k,at' s k,0,[],[]⟩
 |p::_=>⟨k,at' s k,p.1,(s.m.drop p.1.toNat).take p.2.toNat,gF (aR k p s.hs s.hs.length)⟩
def eH (s:Sh) (k:Nat):Uv:=oM s k (dV (at' s k) s.m).av
def fu (s:Sh) (t:List Nat):Sh:=t.foldl bW s
def vQ (s:Sh) (k:Nat):Nat→List Nat
 |0=>[]
 |n+1=>if(at' s k).state=0 then k::vQ (bW s k) k n else[]
def jS (s:Sh):List (Nat×Nat)→List Nat
 | []=>[]
 |p::r=>vQ s p.1 p.2++jS (runs s p.1 p.2) r
def gD (s:Sh):List Nat→List Uv
 | []=>[]
 |k::t=>eH s k::gD (bW s k) t
theorem Gw (s:Sh)(a b:List Nat):fu s (a++b)=fu (fu s a) b:=aqy
theorem zo:∀(a:List Nat) (s:Sh) (b:List Nat),gD s (a++b)=gD s a++gD (fu s a) b
 | [],s,b=>rfl
 |k::t,s,b=>by
  show eH s k::gD (bW s k) (t++b)=_
  rw[zo t];rfl
theorem nA:∀(t:List Nat) (s:Sh),(gD s t).length=t.length
 | [],s=>rfl
 |k::t,s=>by simp[gD,nA t]
theorem xE:∀(t:List Nat) (s:Sh),(fu s t).steps=s.steps+t.length
 | [],s=>rfl
 |k::t,s=>by
  show(fu (bW s k) t).steps=_
  rw[xE t];show s.steps+1+t.length=s.steps+(t.length+1)
  omega
theorem uR (k:Nat):∀(n:Nat) (s:Sh),runs s k n=fu s (vQ s k n)
 |0,s=>rfl
 |n+1,s=>by
  unfold runs vQ;split
  ·rw[uR k n];rfl
  ·rfl
theorem mr:∀(sc:List (Nat×Nat)) (s:Sh),aL s sc=fu s (jS s sc)
 | [],s=>rfl
 |p::r,s=>by rw[jc,mr r,jS,Gw,<-uR]
theorem Gx (k:Nat):∀(n:Nat) (s:Sh),(vQ s k n).length≤n
 |0,s=>apn _
 |n+1,s=>by
  unfold vQ;split
  ·have:=Gx k n (bW s k);simp;omega
  ·simp
theorem Gy:∀(a:List (Nat×Nat)) (s:Sh) (b:List (Nat×Nat)),jS s (a++b)=jS s a++jS (aL s a) b
 | [],s,b=>rfl
 |p::r,s,b=>by
  show vQ s p.1 p.2++jS (runs s p.1 p.2) (r++b)=_
  rw[Gy r,<-aqa,jc];rfl
def Live:Sh→List Nat→Prop
 |_,[]=>True
 |s,k::t=>k<s.hs.length/\(at' s k).state=0/\Live (bW s k) t
theorem BX (s:Sh)(k:Nat):(bW s k).hs.length=s.hs.length:=by simp[bW,eD]
theorem BZ (k:Nat):∀(n:Nat) (s:Sh),(runs s k n).hs.length=s.hs.length
 |0,s=>rfl
 |n+1,s=>by
  unfold runs;split
  ·rw[BZ k n,BX]
  ·rfl
theorem Ca {k:Nat}:∀(n:Nat) (s:Sh),k<s.hs.length→Live s (vQ s k n)
 |0,s,_=>trivial
 |n+1,s,h=>by
  unfold vQ;split
  ·exact⟨h,bo,Ca n _ (by rw[BX];exact h)⟩
  ·trivial
theorem Cb:∀{a:List Nat} {s:Sh} {b:List Nat},Live s a→Live (fu s a) b→Live s (a++b)
 | [],s,b,_,h=>h
 |k::t,s,b,h,g=>⟨h.1,h.2.1,Cb h.2.2 g⟩
theorem Cc:∀{a:List Nat} {s:Sh} {b:List Nat},Live s (a++b)→Live (fu s a) b
 | [],s,b,h=>h
 |k::t,s,b,h=>Cc (a:=t) (s:=bW s k) h.2.2
theorem uS:∀(sc:List (Nat×Nat)) (s:Sh),(∀p∈sc,p.1<s.hs.length)→Live s (jS s sc)
 | [],s,_=>trivial
 |p::r,s,h=>by
  refine Cb (Ca _ _ (h p aq)) ?_;rw[<-uR];exact uS r _ (fun q hq=>by rw[BZ];exact h q (by simp[hq]))
theorem xG {a b:List Nat}(h:Live s (a++b)):Live s a:=by
 induction a generalizing s with
 |nil=>trivial
 |cons k t ih=>exact⟨h.1,h.2.1,ih h.2.2⟩
theorem zq {c n:Nat}:∀{t:List Nat} {s:Sh},Live s t→Fit s c n→Fit (fu s t) c n
 | [],s,_,f=>f
 |k::t,s,h,f=>zq (t:=t) h.2.2 (kg f (by rw[<-f.len];exact h.1) h.2.1)
theorem Gz (l:List UInt8)(a:Nat)(w:Int):∀(n i:Nat),i<a∨a+n≤i→(put l a w n)[i]?=l[i]?
 |0,i,_=>rfl
 |n+1,i,h=>by
  unfold put;rw[aq8 ab,Gz l a w n i ab]
def Off (l m':List UInt8) (av:List (Int×Int)):Prop:=(av=[]/\m'=l)\/∃p,av=[p]/\m'.length=l.length/\∀i:Nat,i<p.1.toNat\/p.1.toNat+p.2.toNat<=i->m'[i]?=l[i]?
theorem EH {l:List UInt8}{op a b:Int}(h:dX l op a=true):Off l (il l op a b) [(a,(gG op:Nat))]:=by
 refine .inr ⟨_,rfl,?_,fun i hi=>?_⟩
 ·unfold il;rw[at7 h,iR]
 ·unfold il;rw[at7 h,Gz _ _ _ _ _ (by simpa using hi)]
theorem UN (h:Hv)(l:List UInt8)(op a b n:Int):Off l (fT h l op a b n).m (fT h l op a b n).av:=by
 have z:∀{m:List UInt8},m=l->Off l m []:=fun e=>.inl ⟨rfl,e⟩
 unfold fT;split
 ·exact z rfl
 split
 ·exact z rfl
 split
 ·exact z rfl
 split
 ·unfold bF;split<;>exact z rfl
 split
 ·unfold aH;split
  ·exact EH bo
  ·exact z rfl
 split
 ·exact z rfl
 split
 ·exact z rfl
 split
 ·unfold aK;split
  ·unfold gB;split<;>exact z rfl
  ·split
   ·unfold eU;split
    ·split
     ·exact EH (op:=18) (bG bo)
     ·exact z rfl
    ·exact z rfl
   ·unfold iN;split
    ·exact EH (op:=18) (bG bo)
    ·exact z rfl
 split
 ·unfold bA;split
  ·exact z rfl
  ·split<;>exact z rfl
 split<;>exact z rfl
theorem GG (h:Hv)(l:List UInt8):Off l (dV h l).m (dV h l).av:=by
 unfold dV oW ins;split
 ·split
  ·exact .inl ⟨rfl,rfl⟩
  ·exact UN _ _ _ _ _ _
 ·exact .inl ⟨rfl,rfl⟩
theorem UO (m:List UInt8):lay m 0 []=m:=by simp[lay]
theorem OE {l m':List UInt8}{f:Nat}(hl:m'.length=l.length)(hf:f+n<=l.length)(h:∀i:Nat,i<f\/f+n<=i->m'[i]?=l[i]?):lay m' f ((l.drop f).take n)=l:=by
 have e1:m'.take f=l.take f:=by
  apply aql;intro i;rw[apS,apS];split
  ·exact h i (.inl bo)
  ·rfl
 have e2:((l.drop f).take n).length=n:=by simp;omega
 have e3:m'.drop (f+n)=l.drop (f+n):=by
  apply aql;intro i;rw[ap3,ap3];exact h _ (.inr ab)
 unfold lay;rw[e1,e2,e3,aqa,<-aqG,aqd,aqd]
theorem xH (hs:List Hv)(a b:List (Int×Int)):gives hs (a++b)=gives (gives hs a) b:=aqy
theorem nC:∀(ls:List (Int×Int)) (hs:List Hv),(gives hs ls).length=hs.length
 | [],hs=>rfl
 |l::r,hs=>by
  show(gives (hs.set l.1.toNat _) r).length=_
  rw[nC r];simp
theorem JM {h:Hv}(e:h.held=true):(h.hold false 0).hold true h.aP=h:=by cases h;simp only at e;subst e;rfl
theorem uT (k:Nat)(p:Int×Int)(hs:List Hv):∀j,j≤hs.length→∀i,(gives (dF k [p] hs) (gF (aR k p hs j)))[i]?=if i<j then hs[i]? else (dF k [p] hs)[i]?
 |0,_,i=>by simp[aR,gF,gives]
 |j+1,hj,i=>by
  have ih:=uT k p hs j ab;have hjl:j<hs.length:=ab;have eg:hs[j]?=some (hs.getD j hN):=by rw[api hjl];simp[List.getD,hjl]
  have el:(dF k [p] hs)[j]?=some (if loses k p j (hs.getD j hN)=true then(hs.getD j hN).hold false 0 else hs.getD j hN):=by
   rw[dM,eg,ap7];congr 1;generalize hs.getD j hN=h;unfold j6 loses pJ;by_cases e:j=k
   ·simp[e]
   ·simp[e]
  have ej:(gives (dF k [p] hs) (gF (aR k p hs j))).getD j hN=(if loses k p j (hs.getD j hN)=true then(hs.getD j hN).hold false 0 else hs.getD j hN):=by
   simp only[List.getD];rw[ih j,ak,el];rfl
  have ea:gF (aR k p hs (j+1))=gF (aR k p hs j)++(if loses k p j (hs.getD j hN)=true then[((j:Int),(hs.getD j hN).aP)]else[]):=by
   rw[aR];unfold gF;rw[aqb];split<;>rfl
  rw[ea,xH];by_cases hl:loses k p j (hs.getD j hN)=true
  ·have hh:(hs.getD j hN).held=true:=by
    unfold loses at hl;simp only[apD]at hl;exact hl.2.1
   rw[at7 hl]at el ej ⊢;show((gives (dF k [p] hs) (gF (aR k p hs j))).set (j:Int).toNat (((gives (dF k [p] hs) (gF (aR k p hs j))).getD (j:Int).toNat hN).hold true (hs.getD j hN).aP))[i]?=_
   rw[apG,ej,JM hh,ap1];by_cases e:j=i
   ·subst e;rw[at7 rfl,at7 (by rw[nC,eD];exact hjl),dU,eg]
   ·rw[at6 e,ih i];by_cases h2:i<j
    ·rw[at7 h2,dU]
    ·rw[at6 h2,ak]
  ·rw[at6 hl]at el ej ⊢;show(gives (dF k [p] hs) (gF (aR k p hs j)))[i]?=_
   rw[ih i];by_cases e:i=j
   ·subst e;rw[ak,dU,el,eg]
   ·by_cases h2:i<j
    ·rw[at7 h2,dU]
    ·rw[at6 h2,ak]
theorem JN (k:Nat)(p:Int×Int)(hs:List Hv):gives (dF k [p] hs) (gF (aR k p hs hs.length))=hs:=by
 apply aql;intro i;rw[uT k p hs _ (apn _) i];split
 ·rfl
 ·rename_i h;rw[aqf (by rw[eD];omega),aqf ab]
theorem Ce (s:Sh)(k:Nat)(hk:k<s.hs.length)(ss:List (Int×Int))(h':Hv):(dF k ss (s.hs.set k h')).set k (at' s k)=dF k ss s.hs:=by
 apply aql;intro i;rw[ap1,dM,dM,eD,ap1];by_cases e:k=i
 ·subst e;simp only[if_true,ap6,hk];unfold at';simp[List.getD,hk]
 ·simp only[e,avm]
theorem JO (F:Fit s c n)(hk:k<c):bX ((bW s k).hs,(bW s k).m) (eH s k)=(s.hs,s.m):=by
 have hl:k<s.hs.length:=by rw[F.len];exact hk
 have eh:s.hs[k]?=some (at' s k):=by unfold at';rw[api hl];simp[List.getD,hl]
 have ok:=(F.ok _ (dH eh)).1;have O:=GG (at' s k) s.m;have S:=(yx ok s.m).1;unfold eH bW;generalize dV (at' s k) s.m=x at *
 obtain⟨xh,xm,xo,xs⟩:=x;simp only at *
 rcases O with⟨rfl,rfl⟩|⟨p,rfl,hm,ho⟩
 ·unfold bX oM;have z:=Ce s k hl [] xh;rw[lQ,lQ]at z;simp only[apG,lQ,UO,Int.toNat_zero];rw[z];rfl
 ·obtain⟨p0,p1,p2⟩:=S p aq;unfold bX oM;simp only[apG,Ce s k hl];rw[JN,OE hm ab ho]
theorem xI {c n:Nat}:∀(t:List Nat) (s:Sh),Fit s c n→Live s t→bE ((fu s t).hs,(fu s t).m) (gD s t)=(s.hs,s.m)
 | [],s,_,_=>rfl
 |k::t,s,F,L=>by
  have hk:k<c:=by rw[<-F.len];exact L.1
  have ih:=xI t (bW s k) (kg F hk L.2.1) L.2.2;show bX (bE ((fu (bW s k) t).hs,(fu (bW s k) t).m) (gD (bW s k) t)) (eH s k)=_
  rw[ih,JO F hk]
theorem JP (F:Fit s c n)(L:Live s t)(j:Nat)(hj:j<=t.length):bE ((fu s t).hs,(fu s t).m) ((gD s t).drop j)=((fu s (t.take j)).hs,(fu s (t.take j)).m):=by
 have e:=(aqd j t).symm;have e1:fu s t=fu (fu s (t.take j)) (t.drop j):=by rw[<-Gw,aqd]
 have e2:(gD s t).drop j=gD (fu s (t.take j)) (t.drop j):=by
  have:=zo (t.take j) s (t.drop j);rw[aqd]at this;rw[this,aqO (by rw[nA];simp;omega),List.drop_of_length_le (by rw[nA];simp;omega),apO]
 rw[e]at L;rw[e1,e2];exact xI _ _ (zq (xG L) F) (Cc L)
def fB (c mn:Nat) (u:Uv):Bool:=decide (0<=u.k/\u.k<c) && (may u.was && (decide (u.fr+u.bs.length<=mn) && u.lost.all fun q=>decide (0<=q.1/\q.1<c)))
structure Uv.Ok (u:Uv):Prop where
 was:u.was.Ok
 f0:0<=u.fr
 f1:u.fr<4294967296
 lost:∀q∈u.lost,0<=q.2/\q.2<4294967296
theorem xJ (k:Nat)(p:Int×Int)(hs:List Hv):∀j,∀q∈aR k p hs j,q.1<j∧q.2=(hs.getD q.1 hN).aP
 |0,q,h=>by simp[aR]at h
 |j+1,q,h=>by
  unfold aR at h;rcases apR.1 h with h|h
  ·have:=xJ k p hs j q h;exact⟨ab,this.2⟩
  ·split at h
   ·simp at h;subst h;exact⟨aq,rfl⟩
   ·simp at h
theorem OG (F:Fit s c n)(hk:k<c)(hn:n<=4096):fB c n (eH s k)=true/\(eH s k).Ok/\(eH s k).bs.length<=4096/\(eH s k).lost.length<=c:=by
 have hl:k<s.hs.length:=by rw[F.len];exact hk
 have eh:s.hs[k]?=some (at' s k):=by unfold at';rw[api hl];simp[List.getD,hl]
 obtain⟨ok,my⟩:=F.ok _ (dH eh);have O:=GG (at' s k) s.m;have S:=(yx ok s.m).1;unfold eH;generalize(dV (at' s k) s.m).m=x1 at *
 generalize(dV (at' s k) s.m).av=x2 at *
 rcases O with⟨rfl,_⟩|⟨p,rfl,_,_⟩
 ·unfold oM fB;refine⟨by simp[my];omega,⟨ok,aq,aq,fun q hq=>by simp at hq⟩,aq,aq⟩
 ·obtain⟨p0,p1,p2⟩:=S p aq;have hm:=F.mem;have hb:((s.m.drop p.1.toNat).take p.2.toNat).length=p.2.toNat:=by simp;omega
  have hu:=xJ k p s.hs s.hs.length;have hul:=mX k p s.hs s.hs.length;have hc:=F.len;unfold oM fB;refine⟨?_,⟨ok,p0,by show p.1<_;omega,fun q hq=>?_⟩,by show((s.m.drop p.1.toNat).take p.2.toNat).length<=_;rw[hb];omega,by show(gF _).length<=_;unfold gF;rw[apY];omega⟩
  ·simp only[my,arl,apD,auk,apM,hb];refine⟨ab,ab,fun q hq=>?_⟩;obtain⟨r,hr,rfl⟩:=apK.1 hq;have:=(hu r hr).1;simp only;omega
  ·obtain⟨r,hr,rfl⟩:=apK.1 hq;have h1:=hu r hr;have h2:s.hs[r.1]?=some (s.hs.getD r.1 hN):=by rw[api h1.1];simp[List.getD,h1.1]
   have o2:=(F.ok _ (dH h2)).1;simp only;rw[h1.2];exact⟨o2.x9,o2.zO⟩
theorem zt {c n:Nat}(hn:n≤4096):∀(t:List Nat) (s:Sh),Fit s c n→Live s t→∀u∈gD s t,fB c n u=true∧u.Ok∧u.bs.length≤4096∧u.lost.length≤c
 | [],s,_,_,u,h=>by simp[gD]at h
 |k::t,s,F,L,u,h=>by
  have hk:k<c:=by rw[<-F.len];exact L.1
  rcases apx.1 h with rfl|h
  ·exact OG F hk hn
  ·exact zt hn t _ (kg F hk L.2.1) L.2.2 u h
end Ud
namespace Vp
variable[Inhabited Hc.bN]
open Hh Mc Ud As
def splitN (c:Nat):List Nat→List (List Nat)
 | []=>[[]]
 |d::t=>if d=c then[]::splitN c t else(d::(splitN c t).headD [])::(splitN c t).tail
theorem qi (c:Nat)(l:List Nat):splitN c l≠[]:=by
 cases l with
 |nil=>simp[splitN]
 |cons d t=>unfold splitN;split<;>simp
theorem mD (c:Nat)(l:List Nat):splitN c l=(splitN c l).headD []::(splitN c l).tail:=by
 cases h:splitN c l with
 |nil=>exact absurd h (qi c l)
 |cons x r=>rfl
theorem q8 (c:Nat):∀a b:List Nat,splitN c (a++c::b)=splitN c a++splitN c b
 | [],b=>by simp[splitN]
 |d::t,b=>by
  have ih:=q8 c t b;show splitN c (d::(t++c::b))=_
  by_cases h:d=c
  ·simp only[splitN,at7 h];rw[ih];rfl
  ·simp only[splitN,at6 h];rw[ih];have e:=mD c t;rw[e];rfl
def mE (s:List Nat):Option Nat:=if s.length<1\/10<s.length\/(s.head?=some 48/\1<s.length)then none else if s.all (fun d=>decide (48<=d/\d<=57))=true then(if vl s<4294967296 then some (vl s)else none)else none
def gu:List (List Nat)→Option (List Nat)
 | []=>some []
 |s::r=>match mE s with
  |none=>none
  |some n=>match gu r with
   |none=>none
   |some l=>some (n::l)
def bH (w:List Nat) (l:List Nat):List Nat:=l.foldl (fun t n=>t++32::dg n) w
structure Pl where
 m:List UInt8
 hs:List Hv
 ps:List (Int×Int)
 us:List Uv
 fr:Bool
def pl0:Pl:=⟨[],[],[],[],false⟩
def uU:List Nat:=[119,111,114,100,115]
def OH:List Nat:=[104,97,114,116]
def aal:List Nat:=[115,101,116]
def OI:List Nat:=[112,105,99,107]
def aam:List Nat:=[114,117,110]
def OJ:List Nat:=[102,97,115,116]
def aan:List Nat:=[104,97,114,116,63]
def OM:List Nat:=[119,104,97,116]
def OO:List Nat:=[115,104,111,119]
def OP:List Nat:=[98,97,99,107]
def EI:List Nat:=[98,108,111,99,107]
def Cf:List Nat:=[111,107]
def aNo:List Nat:=[110,111]
def aIs:List Nat:=[105,115]
def zu:List Nat:=[98,97,100]
def JQ:List Nat:=[114,97,110]
def aQ:List Nat:=[63]
def w4 (n:Nat):List UInt8:=[UInt8.ofNat (n%256),UInt8.ofNat (n/256%256),UInt8.ofNat (n/65536%256),UInt8.ofNat (n/16777216%256)]
def jr (pc:Nat):Hv:=⟨List.replicate 32 0,pc,false,0,0,0⟩
def hAt (p:Pl) (k:Nat):Hv:=p.hs.getD k (jr 0)
def UQ (s:Sh):List Nat:=bH JQ (s.steps::s.out.map Int.toNat)
def ik (p:Pl):Sh:=⟨p.hs,p.m,[],0⟩
def zw (w:Int):List Nat:=vX (Dc.aO w) (Dc.iF (Dc.aJ (Dc.aO w)) w) (Dc.bZ (Dc.aJ (Dc.aO w)) w) (Dc.bV (Dc.aJ (Dc.aO w)) w) (Dc.bS (Dc.aJ (Dc.aO w)) w)
def iL (p:Pl) (l:List Nat):Pl×List Nat:=if 4096<p.m.length+4*l.length then({ p with fr:=false },aQ)else({ p with m:=p.m++l.flatMap w4,fr:=false },bH Cf [p.m.length+4*l.length])
def uV (p:Pl):List Nat→Pl×List Nat
 | [pc]=>if p.hs.length<4 then({ p with hs:=p.hs++[jr pc],fr:=false },bH Cf [p.hs.length+1])else(p,aQ)
 |_=>(p,aQ)
def Cg (p:Pl):List Nat→Pl×List Nat
 | [k,r,x]=>if k<p.hs.length/\1<=r/\r<=31 then({ p with hs:=p.hs.set k { hAt p k with regs:=(hAt p k).regs.set r x },fr:=false },Cf)else({ p with fr:=false },aQ)
 |_=>(p,aQ)
def uW (p:Pl):List Nat→Pl×List Nat
 | [k,n]=>if p.ps.length<300 then({ p with ps:=p.ps++[((k:Int),(n:Int))] },bH Cf [p.ps.length+1])else(p,aQ)
 |_=>(p,aQ)
def nJ (p:Pl) (us:List Uv) (fr:Bool):Pl×List Nat:=if wrong p.m p.hs p.ps=0 then(⟨(aL (ik p) (nums p.ps)).m,(aL (ik p) (nums p.ps)).hs,[],us,fr⟩,UQ (aL (ik p) (nums p.ps)))else(p,bH zu [(wrong p.m p.hs p.ps).toNat])
def aap (p:Pl):List Nat→Pl×List Nat
 | []=>nJ p (gD (ik p) (jS (ik p) (nums p.ps))) true
 |_=>(p,aQ)
def rR (p:Pl):List Nat→Pl×List Nat
 | [room]=>if wrong p.m p.hs p.ps=0/\64<room then({ p with fr:=false },bH zu [3])else nJ { p with fr:=false } p.us false
 |_=>(p,aQ)
def vR (p:Pl):List Nat→List Nat
 | [k]=>if k<p.hs.length then bH (dg (hAt p k).state.toNat) ((hAt p k).cause.toNat::(hAt p k).pc.toNat::(hAt p k).regs.map Int.toNat)else aQ
 |_=>aQ
def nP:List Nat→List Nat
 | [w]=>if Dc.aO w=0 then aNo else bH aIs [(Dc.aO w).toNat,(Dc.iF (Dc.aJ (Dc.aO w)) w).toNat,(Dc.bZ (Dc.aJ (Dc.aO w)) w).toNat,(Dc.bV (Dc.aJ (Dc.aO w)) w).toNat,(Dc.bS (Dc.aJ (Dc.aO w)) w%4294967296).toNat]
 |_=>aQ
def mF (p:Pl):List Nat→List Nat
 | [pc]=>match Bk.blk p.m pc 16 0 with
  | []=>aNo
  |w::_=>zw w
 |_=>aQ
def EJ (p:Pl):List Nat→List Nat
 | [pc]=>dg (Bk.blk p.m pc 16 0).length
 |_=>aQ
def kW (p:Pl):List Nat→Pl×List Nat
 | [n]=>if p.fr=true/\n<=p.us.length then({ p with hs:=(bE (p.hs,p.m) (p.us.drop (p.us.length-n))).1,m:=(bE (p.hs,p.m) (p.us.drop (p.us.length-n))).2,fr:=false },Cf)else(p,aQ)
 |_=>(p,aQ)
def OQ (p:Pl) (w:List Nat) (l:List Nat):Pl×List Nat:=
 if w=uU then iL p l else if w=OH then uV p l else if w=aal then Cg p l else if w=OI then uW p l else if w=aam then aap p l else if w=OJ then rR p l
 else if w=aan then(p,vR p l)else if w=OM then(p,nP l)else if w=OO then(p,mF p l)else if w=OP then kW p l else if w=EI then(p,EJ p l)else(p,aQ)
def nQ (p:Pl) (s:List Nat):Pl×List Nat:=
 match gu (splitN 32 s).tail with
 |none=>(p,aQ)
 |some l=>OQ p ((splitN 32 s).headD []) l
def ans (p:Pl):List (List Nat)→List Nat
 | []=>[]
 |s::r=>(nQ p s).2++10::ans (nQ p s).1 r
def aaq (p:Pl):List (List Nat)→Pl
 | []=>p
 |s::r=>aaq (nQ p s).1 r
theorem GH:∀(a:List (List Nat)) (p:Pl) (b:List (List Nat)),ans p (a++b)=ans p a++ans (aaq p a) b
 | [],p,b=>rfl
 |s::r,p,b=>by
  show(nQ p s).2++10::ans _ (r++b)=((nQ p s).2++10::ans _ r)++_
  rw[GH r];simp[aaq]
def iM (s:List Nat):List (List Nat):=if(splitN 10 s).getLast?=some []then(splitN 10 s).dropLast else splitN 10 s
def jH (s:List Nat):List Nat:=ans pl0 ((iM s).take 40)
theorem JR (a:List Nat):iM (a++[10])=splitN 10 a:=by unfold iM;rw[q8 10 a []];simp[splitN]
theorem OT (a b:List Nat):∃r,iM (a++10::b)=splitN 10 a++r:=by
 unfold iM;rw[q8 10 a b];split
 ·exact⟨(splitN 10 b).dropLast,by rw[List.dropLast_append_of_ne_nil (qi 10 b)]⟩
 ·exact⟨_,rfl⟩
theorem UR (a b:List Nat):∃r,jH (a++10::b)=jH (a++[10])++r:=by obtain⟨r,h⟩:=OT a b;unfold jH;rw[h,JR,List.take_append,GH];exact⟨_,rfl⟩
theorem aar:jH [63]=[63,10]:=an
end Vp
namespace Vp
variable[Inhabited Hc.bN]
open Hh Mc Ud As
variable{p:Pl}
theorem aas (h:mE s=some n):n<4294967296:=by
 unfold mE at h;split at h
 ·cases h
 ·split at h
  ·split at h
   ·injection h with h;omega
   ·cases h
  ·cases h
theorem zx:∀{ws:List (List Nat)} {l:List Nat},gu ws=some l→∀n∈l,n<4294967296
 | [],l,h,n,hn=>by
  simp only[gu,auj]at h;subst h;cases hn
 |s::r,l,h,n,hn=>by
  unfold gu at h;cases h1:mE s with
  |none=>rw[h1]at h;cases h
  |some x=>
   rw[h1]at h;cases h2:gu r with
   |none=>rw[h2]at h;cases h
   |some t=>
    rw[h2]at h;simp only[auj]at h;subst h;rcases apx.1 hn with rfl|hn
    ·exact aas h1
    ·exact zx h2 n hn
structure lg (p:Pl):Prop where
 m4:p.m.length<=4096
 h4:p.hs.length<=4
 hok:∀h∈p.hs,h.Ok/\may h=true
 p3:p.ps.length<=300
 pk:∀q∈p.ps,0<=q.1/\q.1<4294967296/\0<=q.2/\q.2<4294967296
 un:p.fr=true->∃s t,Fit s p.hs.length p.m.length/\Live s t/\p.us=gD s t/\p.hs=(fu s t).hs/\p.m=(fu s t).m
 ne:p.fr=true->1<=p.hs.length/\p.us.length<=200000
theorem OU:∀(sc:List (Nat×Nat)) (s:Sh),(∀p∈sc,p.2≤400)→(jS s sc).length≤400*sc.length
 | [],s,_=>apn _
 |p::r,s,h=>by
  have h1:=Gx p.1 p.2 s;have h2:=h p aq;have h3:=OU r (runs s p.1 p.2) (fun q hq=>h q (by simp[hq]));show(vQ s p.1 p.2++jS (runs s p.1 p.2) r).length<=_
  rw[apo,apH];omega
theorem aat:lg pl0:=⟨by simp[pl0],by simp[pl0],fun h hm=>(by cases hm),by simp[pl0],fun q hq=>(by cases hq),fun h=>(by cases h),fun h=>(by cases h)⟩
theorem lg.old (o:lg p):lg { p with fr:=false }:=⟨o.m4,o.h4,o.hok,o.p3,o.pk,fun h=>(by cases h),fun h=>(by cases h)⟩
theorem OV (i:Nat):((List.replicate 32 (0:Int)).getD i 0)=0:=by rw[apV,aqK];split<;>rfl
theorem UT (h:pc<4294967296):(jr pc).Ok/\may (jr pc)=true:=by
 refine⟨⟨by simp[jr],fun i=>?_,by simp[jr],by simp[jr];omega,by simp[jr],by simp[jr]⟩,?_⟩
 ·have:Hh.rg (jr pc) i=0:=OV i;rw[this];omega
 ·have h0:Hh.rg (jr pc) 0=0:=OV 0;unfold may;rw[h0];simp[jr]
theorem GI {h:Hv}(o:h.Ok)(m:may h=true){r x:Nat}(h1:1<=r)(h2:r<=31)(hx:x<4294967296):({ h with regs:=h.regs.set r x }:Hv).Ok/\may { h with regs:=h.regs.set r x }=true:=by
 have e:∀i,Hh.rg ({ h with regs:=h.regs.set r x }:Hv) i=if i=r then(x:Int)else Hh.rg h i:=fun i=>by
  unfold Hh.rg;rw[apV,apV,ap1];have:=o.len;by_cases hi:i=r
  ·subst hi;rw[at7 rfl,at7 rfl,dU];rfl
  ·rw[at6 (Ne.symm hi),at6 hi]
 refine⟨⟨by simp[o.len],fun i=>?_,o.nH,o.jV,o.x9,o.zO⟩,?_⟩
 ·rw[e];split
  ·omega
  ·exact o.reg i
 ·have e0:=e 0;rw[ak]at e0;unfold may at m ⊢;rw[e0];exact m
theorem GJ:∀l:List Nat,(l.flatMap w4).length=4*l.length
 | []=>rfl
 |n::r=>by simp only[apL,apo,GJ r,apH,w4,ap8];omega
theorem sP (h:k<p.hs.length):hAt p k∈p.hs:=by unfold hAt;rw[apV,api h];exact art h
theorem GK (o:lg p)(hw:wrong p.m p.hs p.ps=0):Fit (ik p) p.hs.length p.m.length/\Live (ik p) (jS (ik p) (nums p.ps))/\Fit (aL (ik p) (nums p.ps)) p.hs.length p.m.length:=by
 obtain⟨_,_,_,_,_,hp⟩:=kE hw;have F:Fit (ik p) p.hs.length p.m.length:=⟨rfl,rfl,o.hok⟩;have hn:∀q∈nums p.ps,q.1<p.hs.length:=fun q hq=>by
  obtain⟨r,hr,rfl⟩:=apK.1 hq;have:=hp r hr;show r.1.toNat<p.hs.length
  omega
 exact⟨F,uS _ _ hn,pM _ hn F⟩
theorem aau (o:lg p){us:List Uv}(h:wrong p.m p.hs p.ps=0->fr=true->us=gD (ik p) (jS (ik p) (nums p.ps))):lg (nJ p us fr).1:=by
 unfold nJ;split
 ·rename_i hw;obtain⟨F,L,G⟩:=GK o hw;have e1:=G.len;have e2:=G.mem;obtain⟨_,w1,_,_,w3,wp⟩:=kE hw;refine⟨by show(aL _ _).m.length<=_;rw[e2];exact o.m4,by show(aL _ _).hs.length<=_;rw[e1];exact o.h4,G.ok,aq,fun q hq=>(by cases hq),fun hf=>?_,fun hf=>⟨by show 1<=(aL _ _).hs.length;rw[e1];exact w1,by
   show us.length<=200000
   have h1:=OU (nums p.ps) (ik p) (fun q hq=>by
    obtain⟨r,hr,rfl⟩:=apK.1 hq;have:=wp r hr;show r.2.toNat<=400
    omega)
   have h2:(nums p.ps).length=p.ps.length:=by unfold nums;rw[apY]
   rw[h hw hf,nA];omega⟩⟩
  refine⟨ik p,jS (ik p) (nums p.ps),?_,L,h hw hf,?_,?_⟩
  ·show Fit (ik p) (aL _ _).hs.length (aL _ _).m.length
   rw[e1,e2];exact F
  ·show(aL _ _).hs=_
   rw[mr]
  ·show(aL _ _).m=_
   rw[mr]
 ·exact o
theorem zy (o:lg p)(hf:p.fr=true)(hn:n<=p.us.length):p.us.all (fB p.hs.length p.m.length)=true/\(∀u∈p.us,u.Ok/\u.bs.length<=4096/\u.lost.length<=p.hs.length)/\(∀h∈(bE (p.hs,p.m) (p.us.drop (p.us.length-n))).1,h.Ok/\may h=true)/\(bE (p.hs,p.m) (p.us.drop (p.us.length-n))).1.length=p.hs.length/\(bE (p.hs,p.m) (p.us.drop (p.us.length-n))).2.length=p.m.length:=by obtain⟨s,t,F,L,e1,e2,e3⟩:=o.un hf;have U:=zt o.m4 t s F L;have hl:=nA t s;rw[<-e1]at U hl;have B:=JP F L (p.us.length-n) ab;rw[<-e1,<-e2,<-e3]at B;have L2:=xG (b:=t.drop (p.us.length-n)) (by rw[aqd];exact L);have F2:=zq L2 F;rw[B];exact⟨apM.2 fun u hu=>(U u hu).1,fun u hu=>(U u hu).2,F2.ok,F2.len,F2.mem⟩
end Vp
namespace Vp
variable[Inhabited Hc.bN]
open Go.Sort Mm As
theorem aee:prog.arrayLen 225=24:=al
theorem aav (h1:n<18446744073709551616)(T:gz w):Calls prog 106 #[.int .u64 n,.int .i64 10] w fun e w'=>e=.returned (str (dg n))/\Gr w w':=by
 have hd:(⟨(Lib.decDigits n).toArray⟩:ByteArray)=bs (dg n):=by rw[C8];rfl
 by_cases hs:n<100
 ·have H:Hid (Calls prog 130 #[.int .i64 n] w fun e w'=>e=.returned (str (dg n))/\w=w'):=(Tryz.internal_strconv_small n hs w).mono fun e w' ⟨he,hw⟩=>⟨by rw[he,hd];rfl,hw.symm⟩
  go_enter func106,ntmps106;go_wp2_with fail;refine H.mono ?_;rintro e w1 ⟨rfl,rfl⟩;go_wp2_with fail;go_ret;exact⟨rfl,Gr.refl _⟩
 ·have hu1:1<=n:=ab;have hnd20:Lib.nDigits n<=20:=by have:=Lib.numDigits_eq n hu1 h1;split at this<;>omega
  have htab:=T.pw;have hH0:=Lib.holds_zero0 w 225 (Lib.nDigits n) ab;have hfmt:=Tryz.internal_strconv_formatBase10 w.heap.size 0 24 n (Array.replicate (Lib.nDigits n) 0) (w.alloc (.cells Lib.zeros24 225)) hH0 (by rw[aqS];exact Lib.lt_pow_nDigits n) h1 (by rw[aqS];omega);rw[aqS]at hfmt;have HF:=kH hfmt;have HN:Hid (Calls prog 131 #[.int .u64 n] (w.alloc (.cells Lib.zeros24 225)) fun e w'=>e=.returned (.int .i64 (Lib.nDigits n))/\(w.alloc (.cells Lib.zeros24 225))=w'):=(Tryz.internal_strconv_numDigits n hu1 h1 _ (Lib.tabIs_alloc htab _)).mono fun e w' ⟨he,hw⟩=>⟨he,hw.symm⟩
  have HH0:=kH hH0;have HD:=kH hd;have hdl:=kH (Lib.decDigits_length n);have HRN:Hid (∀(v':Nat) (dk:Array UInt8),Lib.FmtInv (Lib.nDigits n) n 0 v' dk->∀j (hj:j<(Lib.decDigits n).length),_):=fun v' dk h j hj=>Lib.row_is_numeral h j hj
  have hsl:∀W,(Instr.sliceAt 225 (.pointer (some ⟨w.heap.size,0,none⟩)) none (some (.int .i64 (Lib.nDigits n:Int))) none).run prog W=.ok (.slice (some ⟨w.heap.size,0,none⟩) (Lib.nDigits n) 24) W:=fun W=>by
   rw[run_sliceAt_array_h W 225 ⟨w.heap.size,0,none⟩ (by simp[Program.arrayLen,Program.elem,underlying225]) .i64 (Lib.nDigits n:Int) ab (by rw[aee];omega)];rw[aee];go_simp
  generalize Lib.nDigits n=nd at *
  go_enter func106,ntmps106;go_wp2_with fail;refine HN.mono ?_;rintro e _ ⟨rfl,rfl⟩;go_wp2_with fail;refine HF.mono ?_;rintro e w' ⟨rfl,k,v',dk,rfl,hF⟩;have hcv:(convert 25 9 (.slice (some ⟨w.heap.size,0,none⟩) nd 24)).run prog ((putRow (fun(b:UInt8)=>Value.int .u8 (b.toNat:Int)) (w.alloc (.cells Lib.zeros24 225)) w.heap.size 0 dk).drewN k)=.ok (str (dg n)) ((putRow (fun(b:UInt8)=>Value.int .u8 (b.toNat:Int)) (w.alloc (.cells Lib.zeros24 225)) w.heap.size 0 dk).drewN k):=by
   have h:=run_convert_bytes_back (P:=prog) ((putRow (fun(b:UInt8)=>Value.int .u8 (b.toNat:Int)) (w.alloc (.cells Lib.zeros24 225)) w.heap.size 0 dk).drewN k) 25 9 5 ⟨w.heap.size,0,none⟩ 24 (Lib.decDigits n) underlying25 underlying5 underlying9 (fun j hj=>by
    rw[HRN.out v' dk hF j hj,Lib.add_plain,World.cell?_drewN];exact cell?_putRow (fun(b:UInt8)=>Value.int .u8 (b.toNat:Int)) _ w.heap.size 0 _ dk HH0 (by rw[hF.size,aqS]) j (by rw[hF.size];rw[hdl.out]at hj;exact hj))
   rw[hdl.out,HD.out]at h;exact h
  go_wp2_with fail;go_ret;obtain⟨os,eo⟩:=Lib.fin_at w (.cells Lib.zeros24 225) dk k 0;exact⟨rfl,eo ▸ Lib.below_grow _ w (apn _) k os⟩
theorem zz (h1:n<18446744073709551616)(T:gz w):Calls prog 82 #[.int .u64 n,.int .i64 10] w fun e w'=>e=.returned (str (dg n))/\Gr w w':=by
 have H:=kH (aav h1 T);generalize str (dg n)=V at *
 go_enter func82,ntmps82;go_wp2_with fail;refine H.mono ?_;rintro e w1 ⟨rfl,G⟩;go_wp2_with fail;go_ret;exact⟨rfl,G⟩
theorem GL {c:Nat}(hc:c<128):∀(L:List Nat),(∀d∈L,d<256)→c∈L→∃A B,L=A++c::B∧Lib.indexByte (L.map UInt8.ofNat) (UInt8.ofNat c)=(A.length:Int)∧splitN c L=A::splitN c B
 |d::L,hl,h=>by
  by_cases hd:d=c
  ·subst hd;exact⟨[],L,rfl,by simp[Lib.indexByte],by simp[splitN]⟩
  ·have hb:(UInt8.ofNat d ==UInt8.ofNat c)=false:=by
    rw[aub];intro e;have e:=congrArg UInt8.toNat e;have:=hl d aq;rw[auG,auG]at e;omega
   obtain⟨A,B,e1,e2,e3⟩:=GL hc L (fun x hx=>hl x (by simp[hx])) (by simpa[Ne.symm hd]using h);refine⟨d::A,B,by rw[e1];rfl,?_,?_⟩
   ·unfold Lib.indexByte;simp only[aqo,hb,Bool.false_eq_true,avm];rw[e2,at6 aq];simp only[apH];omega
   ·simp only[splitN,at6 hd];rw[e3];rfl
theorem zA {c:Nat}(hc:c<128):∀(L:List Nat),(∀d∈L,d<256)→c ∉ L→Lib.indexByte (L.map UInt8.ofNat) (UInt8.ofNat c) = -1∧splitN c L=[L]
 | [],_,_=>⟨rfl,rfl⟩
 |d::L,hl,h=>by
  have hd:d≠c:=fun e=>h (by simp[e])
  have hb:(UInt8.ofNat d ==UInt8.ofNat c)=false:=by
   rw[aub];intro e;have e:=congrArg UInt8.toNat e;have:=hl d aq;rw[auG,auG]at e;omega
  have ih:=zA hc L (fun x hx=>hl x (by simp[hx])) (fun e=>h (by simp[e]));refine⟨?_,?_⟩
  ·unfold Lib.indexByte;simp only[aqo,hb,Bool.false_eq_true,avm];rw[ih.1];rfl
  ·simp only[splitN,at6 hd];rw[ih.2];rfl
def bO (c:Nat) (L:List Nat):List Nat×List Nat×Bool:=match splitN c L with
 | []=>(L,[],false)
 | [a]=>(a,[],false)
 |a::_=>(a,L.drop (a.length+1),true)
theorem GM (hco:c=32\/c=10)(hl:∀d∈L,d<256)(hs:L.length<=140737488355328)(w:World):Calls prog 18 #[.string (bs L),.string ⟨#[UInt8.ofNat c]⟩] w fun e w'=>e=.returned (.tuple #[str (bO c L).1,str (bO c L).2.1,.bool (bO c L).2.2])/\Gr w w':=by
 have hc:c<128:=ab;have HX:Hid (Calls prog 40 #[.string (bs L),.string ⟨#[UInt8.ofNat c]⟩] w fun e w'=>e=.returned (.tuple #[str (bO c L).1,str (bO c L).2.1,.bool (bO c L).2.2])/\Gr w w'):=by
  have H:Hid (Calls prog 73 #[.string (bs L),.string ⟨#[UInt8.ofNat c]⟩] w fun e w'=>e=.returned (.int .i64 (Lib.indexByte (bs L).data.toList (UInt8.ofNat c)))/\w=w'):=(Tryz.stringslite_Index_one (bs L) (UInt8.ofNat c) w).mono fun e w' ⟨he,hw⟩=>⟨he,hw.symm⟩
  have hz:=dz L;rw[bU]at H;by_cases h:c∈L
  ·obtain⟨A,B,e0,e1,e2⟩:=GL hc L hl h;rw[e1]at H;have ec:bO c L=(A,B,true):=by
    unfold bO;rw[e2,mD c B];simp only;rw[e0,show A.length+1=(A++[c]).length by simp,show A++c::B=(A++[c])++B by simp,List.drop_left]
   rw[ec];have e3:(bs L).extract 0 A.length=bs A:=by rw[RF,e0,aqY]
   have e4:(bs L).extract (A.length+1) (bs L).size=bs B:=by
    rw[RD,e0,show A.length+1=(A++[c]).length by simp,show A++c::B=(A++[c])++B by simp,List.drop_left]
   have hle:A.length+1<=L.length:=by rw[e0];simp
   rw[show str A=.string (bs A)from rfl,show str B=.string (bs B)from rfl,<-e3,<-e4];clear e1 e2 e0 e3 e4 h hl ec;generalize A.length=i at *
   generalize bs L=s at *
   have h0:(0:Int)<=(i:Int):=ab;have h1:(i:Int)<=(s.size:Int):=ab;have h2:(i:Int)+1<=(s.size:Int):=ab;have h3:(i:Int)+1<9223372036854775808:=ab;clear hz hle hs;rcases hco with rfl|rfl
   all_goals
    clear hc;go_enter func40,ntmps40;go_wp2_with fail;refine H.mono ?_;rintro e _ ⟨rfl,rfl⟩;go_wp2_with fail;go_quiet (fail);go_wp2_with fail;go_ret3;exact⟨rfl,(Gr.refl _).drewN _⟩
  ·obtain⟨e1,e2⟩:=zA hc L hl h;rw[e1]at H;have ec:bO c L=(L,[],false):=by unfold bO;rw[e2]
   rw[ec];rw[show str L=.string (bs L)from rfl];generalize(⟨#[UInt8.ofNat c]⟩:ByteArray)=cb at *
   go_enter func40,ntmps40;go_wp2_with fail;refine H.mono ?_;rintro e _ ⟨rfl,rfl⟩;go_wp2_with fail;go_ret3;exact⟨rfl,Gr.refl _⟩
 generalize(⟨#[UInt8.ofNat c]⟩:ByteArray)=cb at *
 generalize str (bO c L).1=s1 at *
 generalize str (bO c L).2.1=s2 at *
 generalize(bO c L).2.2=t at *
 go_enter func18,ntmps18;go_wp2_with fail;refine HX.mono ?_;rintro e w1 ⟨rfl,G1⟩;go_wp2_with fail;go_ret3;exact⟨rfl,G1⟩
theorem OX:∀(l:List Nat) (acc:Nat),acc*10 ^ l.length≤vg acc l
 | [],acc=>by simp[vg]
 |d::l,acc=>by
  have:=OX l (10*acc+(d-48));show acc*10 ^ (l.length+1)<=vg (10*acc+(d-48)) l
  have h2:10*acc*10^l.length<=(10*acc+(d-48))*10^l.length:=aqQ _ ab;rw[Nat.pow_succ,show acc*(10^l.length*10)=10*acc*10^l.length by rw[aqH 10 acc,Nat.mul_assoc,aqH 10]];omega
theorem Ci {M:Nat}:∀(l:List Nat) (acc u:Nat),(∀d∈l,d<256)→acc≤M→Lib.parseUintM M acc (l.map UInt8.ofNat)=.ok u→(∀d∈l,IsD d)∧u=vg acc l∧u≤M
 | [],acc,u,_,ha,h=>by
  simp only[aru,Lib.parseUintM,Lib.NumEnd.ok.injEq]at h;exact⟨aq,h.symm,ab⟩
 |d::l,acc,u,hl,ha,h=>by
  have hd:=hl d aq;have e:(UInt8.ofNat d).toNat=d:=by rw[auG];omega
  rw[aqo,Lib.parseUintM,e]at h;split at h
  ·rename_i h1;split at h
   ·cases h
   ·split at h
    ·cases h
    ·rename_i h3;rw[show acc*10+(d-48)=10*acc+(d-48)by omega]at h h3;obtain⟨k1,k2,k3⟩:=Ci l _ u (fun x hx=>hl x (by simp[hx])) ab h;refine⟨fun x hx=>?_,k2,k3⟩;rcases apx.1 hx with rfl|hx
     ·exact h1
     ·exact k1 x hx
  ·cases h
theorem Xq (l:List Nat):vl l=vg 0 l:=rfl
theorem GN:s.all (fun d=>decide (48<=d/\d<=57))=true↔∀d∈s,IsD d:=by rw[apM];exact⟨fun h d hd=>ava (h d hd),fun h d hd=>auq (h d hd)⟩
theorem aaw (hl:∀d∈L,d<256)(h:Lib.parseUintB 32 (L.map UInt8.ofNat)=.ok u):L≠[]/\u<4294967296/\mE L=if L.head?=some 48/\1<L.length then none else some u:=by
 unfold Lib.parseUintB at h;split at h
 ·cases h
 rename_i hne;have hne:L≠[]:=fun e=>hne (by rw[e];rfl)
 obtain⟨h1,h2,h3⟩:=Ci L 0 u hl (apF _) h;refine⟨hne,ab,?_⟩;have hpos:1<=L.length:=by
  rcases L with _|⟨a,t⟩
  ·exact absurd rfl hne
  ·simp
 by_cases hz:L.head?=some 48/\1<L.length
 ·rw[at7 hz];unfold mE;rw[at7 (.inr (.inr hz))]
 ·rw[at6 hz];have hlen:L.length<=10:=by
   rcases Nat.lt_or_ge 10 L.length with hb|hb
   ·exfalso
    match L,hne with
    |a::t,_=>
     have ha:=h1 a aq;unfold IsD at ha;have ams:a≠48:=fun e=>hz ⟨by simp[e],ab⟩
     have hp:=OX t (10*0+(a-48));have e:vg 0 (a::t)=vg (10*0+(a-48)) t:=rfl;rw[<-e,<-h2]at hp;have ht:10<=t.length:=by simp at hb;omega
     have h10:10^10<=10^t.length:=aqE ab ht;have:1*10^t.length<=(10*0+(a-48))*10^t.length:=aqQ _ ab;omega
   ·exact hb
  unfold mE;rw[at6 (by rintro(h|h|h)<;>first|omega|exact hz h),at7 (GN.2 h1),Xq,<-h2,dU]
theorem aax (h:∀u,Lib.parseUintB 32 (L.map UInt8.ofNat)≠.ok u):mE L=none:=by
 unfold mE;split
 ·rfl
 ·rename_i hc;split
  ·rename_i ha;split
   ·rename_i hv;have h1:=GN.1 ha;refine absurd ?_ (h (vg 0 L));unfold Lib.parseUintB;rw[at6 (by intro e;apply hc;left;rw[List.map_eq_nil_iff.1 e];simp)];rw[Xq]at hv;exact WE an L 0 h1 ab
   ·rfl
  ·rfl
theorem aef (hL:∀x∈L,x<256)(hp:p<L.length)(w:World):(Instr.index 9 (.string (bs L)) (.int .i64 (p:Int))).run prog w=.ok (.int .u8 ((L[p]:Nat):Int)) w:=by
 have hp':p<(bs L).size:=by rw[dz];exact hp
 have e0:((bs L)[p]'hp').toNat=L[p]:=by
  have e:(bs L)[p]'hp'=UInt8.ofNat L[p]:=by
   show(bs L).data[p]=_
   simp only[bs,apN,List.getElem_map]
  have:=hL _ (art hp);rw[e,auG];omega
 rw[run_index_string (h:=underlying9),dif_pos ⟨ab,ab⟩];simp only[apG,e0]
theorem aay {A B:List Nat}(ha:∀c∈A,c<256)(hb:∀c∈B,c<256):((bs A).toList ==(bs B).toList)=decide (A=B):=by
 rw[aqs,aqs];by_cases h:A=B
 ·subst h;simp
 ·rw[auh h,aub];exact fun e=>h (CZ ha hb (nU e))
def nv (o:Option Nat):Value:=match o with
 |none=>.tuple #[.int .u32 0,.bool false]
 |some n=>.tuple #[.int .u32 n,.bool true]
theorem JS (hl:∀d∈L,d<256)(hs:L.length<=140737488355328)(E:Lj w):Calls prog 102 #[.string (bs L),.int .i64 10,.int .i64 32] w fun e w'=>((∃u:Nat,e=.returned (.tuple #[.int .u64 u,.nilIface])/\Lib.parseUintB 32 (L.map UInt8.ofNat)=.ok u)\/((∃(u:Nat) (a:TypeId) (b:Value),e=.returned (.tuple #[.int .u64 u,.iface a b]))/\∀u,Lib.parseUintB 32 (L.map UInt8.ofNat)≠.ok u))/\Gr w w':=by
 obtain⟨⟨a,b,h1⟩,c,d,h2⟩:=E;have hz:=dz L;rcases h:Lib.parseUintB 32 (bs L).data.toList with v|_|_
 ·
  rw[bU]at h;refine(Tryz.strconv_ParseUint_10_at32_ok (bs L) ab v (by rw[bU];exact h) w).mono ?_;rw[h];rintro e w' ⟨rfl,rfl|rfl⟩
  ·exact⟨.inl ⟨v,rfl,rfl⟩,Gr.refl _⟩
  ·exact⟨.inl ⟨v,rfl,rfl⟩,Lib.bytesWorld_below _ _ _⟩
 ·
  refine(Tryz.strconv_ParseUint_10_at32_bad (bs L) ab (fun r e=>by rw[h]at e;subst e;exact⟨fun u e=>(by cases e),fun e=>(by cases e)⟩) _ w h1 (.inr ⟨a,b,rfl⟩)).mono ?_;rw[bU]at h;rintro e w' ⟨N,rfl,_,_,G⟩;exact⟨.inr ⟨⟨0,_,_,rfl⟩,fun u=>by rw[h];exact fun e=>(by cases e)⟩,G⟩
 ·
  refine(Tryz.strconv_ParseUint_10_at32_range (bs L) ab h _ w h2 (.inr ⟨c,d,rfl⟩)).mono ?_;rw[bU]at h;rintro e w' ⟨N,rfl,_,_,G⟩;exact⟨.inr ⟨⟨4294967295,_,_,rfl⟩,fun u=>by rw[h];exact fun e=>(by cases e)⟩,G⟩
theorem UU (hl:∀d∈L,d<256)(hs:L.length<=140737488355328)(E:Lj w):Calls prog 75 #[str L] w fun e w'=>e=.returned (nv (mE L))/\Gr w w':=by
 have H:=JS hl hs E;by_cases hp:∃u,Lib.parseUintB 32 (L.map UInt8.ofNat)=.ok u
 ·obtain⟨u,hu⟩:=hp;obtain⟨hne,hb,hn⟩:=aaw hl hu;have H1:Hid (Calls prog 102 #[str L,.int .i64 10,.int .i64 32] w fun e w'=>e=.returned (.tuple #[.int .u64 u,.nilIface])/\Gr w w'):=H.mono fun e w' ⟨h,G⟩=>⟨by
   rcases h with⟨v,he,hv⟩|⟨_,hv⟩
   ·rw[hu]at hv;injection hv with hv;rw[he,hv]
   ·exact absurd hu (hv u),G⟩
  rw[hn];clear hn H hu E;have hpos:0<L.length:=List.length_pos_iff.2 hne;have hix:∀w:World,(Instr.index 9 (.string (bs L)) (.int .i64 0)).run prog w=.ok (.int .u8 ((L[0]:Nat):Int)) w:=fun w=>aef hl hpos w
  have hbq:=aay hl (B:=[48]) aq;have amt:IntKind.u32.wrap (u:Int)=(u:Int):=by rw[IntKind.wrap_u32];omega
  have h0:L.head?=some L[0]:=by rw[List.head?_eq_getElem?];exact api hpos
  rw[h0];by_cases ha:L[0]=48
  ·have h1:L=[48]\/1<L.length:=by
    rcases L with _|⟨a,_|⟨b,t⟩⟩
    ·simp at hpos
    ·left;simp at ha;rw[ha]
    ·right;simp
   rw[ha]at hix ⊢;have hb:(⟨#[48]⟩:ByteArray)=bs [48]:=rfl;rcases h1 with rfl|h1
   ·rw[at6 aq];clear hbq hne hpos h0 ha hl;have hb2:((bs [48]).toList ==[48])=true:=by rw[aqs,bU];rfl
    rw[show str [48]=.string (bs [48])from rfl]at *
    generalize bs [48]=B at *
    clear hb;go_enter func75,ntmps75;go_wp2_with fail;refine H1.mono ?_;rintro e w1 ⟨rfl,G⟩;go_wp2_with fail;go_ret2;exact⟨rfl,G⟩
   ·rw[at7 ⟨rfl,h1⟩];have hb2:((bs L).toList ==[48])=false:=by
     rw[show([48]:List UInt8)=(bs [48]).toList by rw[aqs,bU];rfl,hbq,decide_eq_false_iff_not];rintro rfl;simp at h1
    clear hbq hne hpos h0 ha hl;rw[show str L=.string (bs L)from rfl]at *
    generalize bs L=B at *
    clear hb h1 hs;go_enter func75,ntmps75;go_wp2_with fail;refine H1.mono ?_;rintro e w1 ⟨rfl,G⟩;go_wp2_with fail;go_ret2;exact⟨rfl,G⟩
  ·rw[at6 (fun h=>ha (aum h.1))];have ha2:((L[0]:Nat):Int)≠48:=ab;rw[show str L=.string (bs L)from rfl]at *
   generalize L[0]=a at *
   generalize bs L=B at *
   go_enter func75,ntmps75;go_wp2_with fail;refine H1.mono ?_;rintro e w1 ⟨rfl,G⟩;go_wp2_with fail;go_ret2;exact⟨rfl,G⟩
 ·have hno:∀u,Lib.parseUintB 32 (L.map UInt8.ofNat)≠.ok u:=fun u hu=>hp ⟨u,hu⟩
  have H1:Hid (Calls prog 102 #[str L,.int .i64 10,.int .i64 32] w fun e w'=>(∃(u:Nat) (a:TypeId) (b:Value),e=.returned (.tuple #[.int .u64 u,.iface a b]))/\Gr w w'):=H.mono fun e w' ⟨h,G⟩=>⟨by
   rcases h with⟨v,he,hv⟩|⟨h,_⟩
   ·exact absurd hv (hno v)
   ·exact h,G⟩
  rw[aax hno];generalize str L=V at *
  go_enter func75,ntmps75;go_wp2_with fail;refine H1.mono ?_;rintro e w1 ⟨⟨u,a,b,rfl⟩,G⟩;go_wp2_with fail;go_ret2;exact⟨rfl,G⟩
end Vp
namespace Vp
variable[Inhabited Hc.bN]
open Mm Hh Hc Mc Ud As
variable{ao:Option Addr}
variable{L:List (List Nat)}
structure Ns (K:IntKind) (w:World) (ao:Option Addr) (n:Nat) (l:List Nat):Prop where
 len:l.length=n
 spot:0<n->∃b o,ao=some ⟨b,o,none⟩/\b<w.heap.size/\∀(t x:Nat),l[t]?=some x->w.cell? ⟨b,o+t,none⟩=some (.int K x)
theorem Ns.of (h:Ns K w ao n l)(G:Gr w w'):Ns K w' ao n l:=
 ⟨h.len,fun hn=>by
  obtain⟨b,o,e,hb,hc⟩:=h.spot hn;exact⟨b,o,e,apq hb G.size,fun t x hx=>(G.cell _ (by exact hb)).trans (hc t x hx)⟩⟩
structure Ts (w:World) (ao:Option Addr) (n:Nat) (L:List (List Nat)):Prop where
 len:L.length=n
 spot:0<n->∃b o,ao=some ⟨b,o,none⟩/\b<w.heap.size/\∀(t:Nat) (x:List Nat),L[t]?=some x->w.cell? ⟨b,o+t,none⟩=some (str x)
theorem Ts.of (h:Ts w ao n L)(G:Gr w w'):Ts w' ao n L:=
 ⟨h.len,fun hn=>by
  obtain⟨b,o,e,hb,hc⟩:=h.spot hn;exact⟨b,o,e,apq hb G.size,fun t x hx=>(G.cell _ (by exact hb)).trans (hc t x hx)⟩⟩
theorem Cj:(prog.info? 9).map (fun i=>(i.zero,i.size,i.bytes))=some (some (.string ⟨#[]⟩),1,16):=al
theorem UW (L:List (List Nat)):∀u∈L.map str,u.oneCell'=true:=by intro u hu;obtain⟨x,_,rfl⟩:=apK.1 hu;rfl
theorem sQ {t:Nat}(h:w.heap[b]?=some (.cells #[v] t f)):∀j u,([v]:List Value)[j]?=some u->w.cell? ((⟨b,0,none⟩:Addr).add j)=some u:=by intro j u hj;rw[cz,apu,cr h];simpa using hj
theorem Ts.own (h:w.ownsRow base 9 1 (.slice ao n c) n (L.map str)):Ts w ao n L:=by
 obtain⟨hl,h⟩:=h;simp only[apY,Nat.mul_one]at hl;refine⟨hl,fun hn=>?_⟩;rcases h with⟨h0,h1⟩|⟨g,cap,cur,hv,_,hg,_,_,_,ht⟩
 ·omega
 ·injection hv with hv;refine⟨g,0,hv,(gs hg).1,fun t x hx=>?_⟩;have e:=congrArg (fun l=>l[t]?) ht;simp only[apT,hx,ap7]at e;rw[apu,cr hg];rw[apS]at e;split at e
  ·simpa using e
  ·cases e
theorem aaz (h:Ts w ao n L)(hc:ao=none->c=0):Src w (.slice ao n c) n 1 (L.map str):=by
 by_cases hn:0<n
 ·obtain⟨b,o,rfl,hb,hc⟩:=h.spot hn;refine .inr ⟨_,c,rfl,by simp[h.len],fun j u hj=>?_⟩;rw[apT]at hj;obtain⟨x,hx,rfl⟩:=aqv.1 hj;rw[cz];exact hc j x hx
 ·have h0:n=0:=ab;subst h0;have hL:=apX h.len;subst hL;cases ao with
  |none=>rw[hc rfl];exact .inl ⟨rfl,rfl,rfl⟩
  |some ad=>exact .inr ⟨ad,c,rfl,rfl,fun j u hj=>by simp at hj⟩
theorem OY (N:Ns .i64 w ao n l)(hl:∀x∈l,x<9223372036854775808)(hn:n<=1000000)(T:gz w):Calls prog 52 #[.slice ao n c] w fun e w'=>∃a k,e=.returned (.slice a n k)/\w'.ownsRow w.heap.size 9 1 (.slice a n k) n ((l.map dg).map str)/\Gr w w':=by
 obtain⟨i0,hi,hz0,hz1,hz2⟩:=auz Cj;have HN:=kH N;have HL:=kH hl;have HT:=kH T;go_enter func52,ntmps52;go_wp2_with fail;go_loopw [3,8] (fun s i wr=>∃k:Nat,k<=n/\i=.int .i64 k/\(∃a c,s=.slice a k c)/\wr.ownsRow w.heap.size 9 1 s k (((l.take k).map dg).map str)/\Gr w wr) (fun _ i _=>n-(intOf i).toNat)
 case atStart=>exact⟨0,apF _,rfl,⟨none,0,rfl⟩,aur _ _ _ _,Gr.refl _⟩
 case round=>
  obtain⟨k,hk,rfl,⟨a1,c1,rfl⟩,O,G⟩:=hrel;have HG:=kH G;by_cases hlt:k<n
  ·obtain⟨b,o,rfl,hb,hc⟩:=HN.spot ab;obtain⟨x,hx⟩:∃x,l[k]?=some x:=⟨_,api (by rw[HN.out.len];exact hlt)⟩;have hx1:=HL x (aps hx);have k1:=(G.cell _ (by exact hb)).trans (hc k x hx);have hwr:IntKind.u64.wrap (x:Int)=(x:Int):=by rw[avc];omega
   have HF:Hid (∀W:World,gz W->Calls prog 82 #[.int .u64 x,.int .i64 10] W fun e w'=>e=.returned (str (dg x))/\Gr W w'):=fun W T=>zz ab T
   have HE:Hid (((l.take (k+1)).map dg).map str=((l.take k).map dg).map str++[str (dg x)]):=by
    unfold Hid;rw[apU,hx];simp
   have HO:=kH O;generalize((l.take k).map dg).map str=old at *
   have OZ:Hid (∀u∈[str (dg x)],u.oneCell'=true):=fun u hu=>by rw[apE.1 hu];rfl
   rw[show str (dg x)=.string (bs (dg x))from rfl]at *
   generalize bs (dg x)=V at *
   go_wp2_with fail;refine(HF _ (HT.of HG)).mono ?_;rintro e w1 ⟨rfl,G1⟩;have aU:=kH G1;go_wp2_with (at_builtin;refine auK _ rfl (.tmp 12) (.tmp 16) 22 rfl w.heap.size 9 i0 (.string ⟨#[]⟩) 1 16 underlying22 hi hz0 hz1 hz2 rfl an (.slice a1 k c1) k old rfl (aC HO (aU.alloc _)) ⟨w1.heap.size,0,none⟩ 1 1 [.string V] rfl rfl (sQ (at5 w1 _)) ?one bj ab (by have:=HG.size;have:=aU.size;simp;omega) ?_;(case one=>exact OZ);intro v' w2 hown hgrow _;obtain⟨_,_,a2,c2,rfl⟩:=az hown);have kY:=kH hown;have HG2:=kH ((HG.trans (aU.alloc _)).grown hgrow (fun b hb=>(HO.lt b hb).1));go_wp2_with fail;go_roundw
   case rel=>exact⟨k+1,ab,by go_num,⟨a2,c2,rfl⟩,by rw[HE.out];exact kY,HG2⟩
   case measure=>simp[intOf];omega
  ·have e0:k=n:=ab;have HO:Hid (wr.ownsRow w.heap.size 9 1 (.slice a1 n c1) n ((l.map dg).map str)):=by
    unfold Hid;rw[e0,ap0 (by rw[HN.out.len];omega)]at O;exact O
   subst e0;go_wp2_with fail;go_ret;exact⟨a1,c1,rfl,HO,HG⟩
theorem aaA (N:Ns .u32 w ao n l)(hl:∀x∈l,x<4294967296)(hn:n<=1000000)(T:gz w):Calls prog 79 #[.slice ao n c] w fun e w'=>∃a k,e=.returned (.slice a n k)/\w'.ownsRow w.heap.size 9 1 (.slice a n k) n ((l.map dg).map str)/\Gr w w':=by
 obtain⟨i0,hi,hz0,hz1,hz2⟩:=auz Cj;have HN:=kH N;have HL:=kH hl;have HT:=kH T;go_enter func79,ntmps79;go_wp2_with fail;go_loopw [3,8] (fun s i wr=>∃k:Nat,k<=n/\i=.int .i64 k/\(∃a c,s=.slice a k c)/\wr.ownsRow w.heap.size 9 1 s k (((l.take k).map dg).map str)/\Gr w wr) (fun _ i _=>n-(intOf i).toNat)
 case atStart=>exact⟨0,apF _,rfl,⟨none,0,rfl⟩,aur _ _ _ _,Gr.refl _⟩
 case round=>
  obtain⟨k,hk,rfl,⟨a1,c1,rfl⟩,O,G⟩:=hrel;have HG:=kH G;by_cases hlt:k<n
  ·obtain⟨b,o,rfl,hb,hc⟩:=HN.spot ab;obtain⟨x,hx⟩:∃x,l[k]?=some x:=⟨_,api (by rw[HN.out.len];exact hlt)⟩;have hx1:=HL x (aps hx);have k1:=(G.cell _ (by exact hb)).trans (hc k x hx);have hwr:IntKind.u64.wrap (x:Int)=(x:Int):=by rw[avc];omega
   have HF:Hid (∀W:World,gz W->Calls prog 82 #[.int .u64 x,.int .i64 10] W fun e w'=>e=.returned (str (dg x))/\Gr W w'):=fun W T=>zz ab T
   have HE:Hid (((l.take (k+1)).map dg).map str=((l.take k).map dg).map str++[str (dg x)]):=by
    unfold Hid;rw[apU,hx];simp
   have HO:=kH O;generalize((l.take k).map dg).map str=old at *
   have OZ:Hid (∀u∈[str (dg x)],u.oneCell'=true):=fun u hu=>by rw[apE.1 hu];rfl
   rw[show str (dg x)=.string (bs (dg x))from rfl]at *
   generalize bs (dg x)=V at *
   go_wp2_with fail;refine(HF _ (HT.of HG)).mono ?_;rintro e w1 ⟨rfl,G1⟩;have aU:=kH G1;go_wp2_with (at_builtin;refine auK _ rfl (.tmp 12) (.tmp 16) 22 rfl w.heap.size 9 i0 (.string ⟨#[]⟩) 1 16 underlying22 hi hz0 hz1 hz2 rfl an (.slice a1 k c1) k old rfl (aC HO (aU.alloc _)) ⟨w1.heap.size,0,none⟩ 1 1 [.string V] rfl rfl (sQ (at5 w1 _)) ?one bj ab (by have:=HG.size;have:=aU.size;simp;omega) ?_;(case one=>exact OZ);intro v' w2 hown hgrow _;obtain⟨_,_,a2,c2,rfl⟩:=az hown);have kY:=kH hown;have HG2:=kH ((HG.trans (aU.alloc _)).grown hgrow (fun b hb=>(HO.lt b hb).1));go_wp2_with fail;go_roundw
   case rel=>exact⟨k+1,ab,by go_num,⟨a2,c2,rfl⟩,by rw[HE.out];exact kY,HG2⟩
   case measure=>simp[intOf];omega
  ·have e0:k=n:=ab;have HO:Hid (wr.ownsRow w.heap.size 9 1 (.slice a1 n c1) n ((l.map dg).map str)):=by
    unfold Hid;rw[e0,ap0 (by rw[HN.out.len];omega)]at O;exact O
   subst e0;go_wp2_with fail;go_ret;exact⟨a1,c1,rfl,HO,HG⟩
theorem aaB (N:Ns .i64 w ao n l)(hl:∀x∈l,x<9223372036854775808)(hn:n<=1000000)(T:gz w):Calls prog 128 #[.slice ao n c] w fun e w'=>∃a k,e=.returned (.slice a n k)/\w'.ownsRow w.heap.size 9 1 (.slice a n k) n ((l.map dg).map str)/\Gr w w':=by
 obtain⟨i0,hi,hz0,hz1,hz2⟩:=auz Cj;have HN:=kH N;have HL:=kH hl;have HT:=kH T;go_enter func128,ntmps128;go_wp2_with fail;go_loopw [3,8] (fun s i wr=>∃k:Nat,k<=n/\i=.int .i64 k/\(∃a c,s=.slice a k c)/\wr.ownsRow w.heap.size 9 1 s k (((l.take k).map dg).map str)/\Gr w wr) (fun _ i _=>n-(intOf i).toNat)
 case atStart=>exact⟨0,apF _,rfl,⟨none,0,rfl⟩,aur _ _ _ _,Gr.refl _⟩
 case round=>
  obtain⟨k,hk,rfl,⟨a1,c1,rfl⟩,O,G⟩:=hrel;have HG:=kH G;by_cases hlt:k<n
  ·obtain⟨b,o,rfl,hb,hc⟩:=HN.spot ab;obtain⟨x,hx⟩:∃x,l[k]?=some x:=⟨_,api (by rw[HN.out.len];exact hlt)⟩;have hx1:=HL x (aps hx);have k1:=(G.cell _ (by exact hb)).trans (hc k x hx);have hwr:IntKind.u64.wrap (x:Int)=(x:Int):=by rw[avc];omega
   have HF:Hid (∀W:World,gz W->Calls prog 82 #[.int .u64 x,.int .i64 10] W fun e w'=>e=.returned (str (dg x))/\Gr W w'):=fun W T=>zz ab T
   have HE:Hid (((l.take (k+1)).map dg).map str=((l.take k).map dg).map str++[str (dg x)]):=by
    unfold Hid;rw[apU,hx];simp
   have HO:=kH O;generalize((l.take k).map dg).map str=old at *
   have OZ:Hid (∀u∈[str (dg x)],u.oneCell'=true):=fun u hu=>by rw[apE.1 hu];rfl
   rw[show str (dg x)=.string (bs (dg x))from rfl]at *
   generalize bs (dg x)=V at *
   go_wp2_with fail;refine(HF _ (HT.of HG)).mono ?_;rintro e w1 ⟨rfl,G1⟩;have aU:=kH G1;go_wp2_with (at_builtin;refine auK _ rfl (.tmp 12) (.tmp 16) 22 rfl w.heap.size 9 i0 (.string ⟨#[]⟩) 1 16 underlying22 hi hz0 hz1 hz2 rfl an (.slice a1 k c1) k old rfl (aC HO (aU.alloc _)) ⟨w1.heap.size,0,none⟩ 1 1 [.string V] rfl rfl (sQ (at5 w1 _)) ?one bj ab (by have:=HG.size;have:=aU.size;simp;omega) ?_;(case one=>exact OZ);intro v' w2 hown hgrow _;obtain⟨_,_,a2,c2,rfl⟩:=az hown);have kY:=kH hown;have HG2:=kH ((HG.trans (aU.alloc _)).grown hgrow (fun b hb=>(HO.lt b hb).1));go_wp2_with fail;go_roundw
   case rel=>exact⟨k+1,ab,by go_num,⟨a2,c2,rfl⟩,by rw[HE.out];exact kY,HG2⟩
   case measure=>simp[intOf];omega
  ·have e0:k=n:=ab;have HO:Hid (wr.ownsRow w.heap.size 9 1 (.slice a1 n c1) n ((l.map dg).map str)):=by
    unfold Hid;rw[e0,ap0 (by rw[HN.out.len];omega)]at O;exact O
   subst e0;go_wp2_with fail;go_ret;exact⟨a1,c1,rfl,HO,HG⟩
end Vp
namespace Vp
variable[Inhabited Hc.bN]
open Mm Hh Hc Mc Ud As
theorem mG {c:Nat}(hc:c<128)(hl:∀d∈L,d<256):(bO c L).1=(splitN c L).headD []/\(∀d∈(bO c L).1,d<256)/\(∀d∈(bO c L).2.1,d<256)/\(bO c L).1.length<=L.length/\ ((bO c L).2.2=true->splitN c (bO c L).2.1=(splitN c L).tail/\(bO c L).2.1.length<L.length)/\((bO c L).2.2=false->(splitN c L).tail=[]/\(bO c L).2.1=[]):=by
 by_cases h:c∈L
 ·obtain⟨A,B,e0,_,e2⟩:=GL hc L hl h;have ec:bO c L=(A,B,true):=by
   unfold bO;rw[e2,mD c B];simp only;rw[e0,show A.length+1=(A++[c]).length by simp,show A++c::B=(A++[c])++B by simp,List.drop_left]
  rw[ec,e2];refine⟨rfl,fun d hd=>hl d (by rw[e0];simp[hd]),fun d hd=>hl d (by rw[e0];simp[hd]),by rw[e0];simp,fun _=>⟨rfl,by rw[e0];simp;omega⟩,fun h=>by cases h⟩
 ·obtain⟨_,e2⟩:=zA hc L hl h;have ec:bO c L=(L,[],false):=by unfold bO;rw[e2]
  rw[ec,e2];exact⟨rfl,hl,fun d hd=>(by cases hd),apn _,fun h=>(by cases h),fun _=>⟨rfl,rfl⟩⟩
theorem UX (h:mE s=some n):1<=s.length:=by
 unfold mE at h;split at h
 ·cases h
 ·omega
theorem JU (s:List Nat)(r:List (List Nat)):gu (s::r)=match mE s with
  |none=>none
  |some n=>(gu r).map (n::·):=by
 rw[gu];cases mE s with
 |none=>rfl
 |some n=>cases gu r<;>rfl
def rdQ (dn R:List Nat) (mo:Bool):Option (List Nat):=if mo=true then(gu (splitN 32 R)).map (dn++·)else some dn
def RdA (N:Nat) (w:World) (L:List Nat) (e:Ending):Prop:=match gu (splitN 32 L).tail with
 |none=>e=.returned (.tuple #[.string ⟨#[]⟩,.slice none 0 0,.bool false])
 |some l=>∃a c,e=.returned (.tuple #[str ((splitN 32 L).headD []),.slice a l.length c,.bool true])/\Ns .u32 w a l.length l/\∀b o,a=some ⟨b,o,none⟩->N<=b
def szV (v:Value):Nat:=match v with
 | .string s=>s.size
 |_=>0
def msR (r m:Value):Nat:=match m with
 | .bool true=>szV r+1
 |_=>0
theorem wz:(prog.info? 37).map (fun i=>(i.zero,i.size,i.bytes))=some (some (Value.int .u32 0),1,4):=al
theorem Ns.own (h:w.ownsRow base 37 1 (.slice a l.length c) l.length (l.map fun x:Nat=>Value.int .u32 (x:Int))):Ns .u32 w a l.length l:=by
 obtain⟨_,h⟩:=h;refine⟨rfl,fun hn=>?_⟩;rcases h with⟨h0,h1⟩|⟨g,cap,cur,hv,_,hg,_,_,_,ht⟩
 ·omega
 ·injection hv with hv;refine⟨g,0,hv,(gs hg).1,fun t x hx=>?_⟩;have e:=congrArg (fun l=>l[t]?) ht;simp only[apT,hx,ap7]at e;rw[apu,cr hg];rw[apS]at e;split at e
  ·rw[aqD]at e;exact e
  ·cases e
theorem ug (hl:∀d∈L,d<256)(hs:L.length<=4000000)(E:Lj w):Calls prog 42 #[str L] w fun e w'=>RdA w.heap.size w' L e/\Gr w w':=by
 obtain⟨i0,hi,hz0,hz1,hz2⟩:=auz wz;have HC:Hid (∀(M:List Nat),(∀d∈M,d<256)->M.length<=4000000->∀W:World,_):=fun M h1 h2 W=>GM (.inl rfl) h1 ab W
 have HN:Hid (∀(M:List Nat),(∀d∈M,d<256)->M.length<=4000000->∀W:World,Gr w W->_):=fun M h1 h2 W G=>UU h1 ab (E.of G)
 obtain⟨s1,s2,s3,s4,s5,s6⟩:=mG (c:=32) ab hl;have rH:=kH hl;have HS:=kH hs;have HQ0:Hid (rdQ [] (bO 32 L).2.1 (bO 32 L).2.2=gu (splitN 32 L).tail):=by
  unfold Hid rdQ;cases ht:(bO 32 L).2.2 with
  |true=>
   rw[at7 rfl,(s5 ht).1];cases gu (splitN 32 L).tail<;>rfl
  |false=>rw[at6 aq,(s6 ht).1];rfl
 have HR0:Hid ((∀d∈(bO 32 L).2.1,d<256)/\(bO 32 L).2.1.length<=L.length):=⟨s3,by
  cases ht:(bO 32 L).2.2 with
  |true=>have:=(s5 ht).2;omega
  |false=>rw[(s6 ht).2];simp⟩
 have HH:Hid (str (bO 32 L).1=str ((splitN 32 L).headD [])):=by unfold Hid;rw[s1]
 have hcut:=HC L hl hs w;rw[show str L=.string (bs L)from rfl];have HC0:=kH hcut;clear hcut s1 s2 s3 s4 s5 s6 hl hs E;generalize bs L=B at *
 generalize str (bO 32 L).1=V1 at *
 obtain⟨R0,hR0⟩:∃R0,R0=(bO 32 L).2.1:=⟨_,rfl⟩;obtain⟨t0,ht0⟩:∃t0,t0=(bO 32 L).2.2:=⟨_,rfl⟩;rw[<-hR0,<-ht0]at HC0 HQ0;rw[<-hR0]at HR0;clear hR0 ht0;go_enter func42,ntmps42;go_wp2_with fail;refine HC0.mono ?_;rintro e w1 ⟨rfl,G1⟩;have aU:Hid (Gr w w1):=G1;clear G1 HC0;go_wp2_with fail;go_loopw [6,7,8] (fun r m s wr=>∃(dn R:List Nat) (mo:Bool) (a:Option Addr) (c:Nat),r=str R/\m=.bool mo/\s=.slice a dn.length c/\wr.ownsRow w.heap.size 37 1 s dn.length (dn.map fun x:Nat=>Value.int .u32 (x:Int))/\Gr w wr/\(∀d∈R,d<256)/\dn.length+R.length<=L.length/\rdQ dn R mo=gu (splitN 32 L).tail) (fun r m _ _=>msR r m)
 case atStart=>exact⟨[],R0,t0,none,0,rfl,rfl,rfl,aur _ _ _ _,aU,HR0.1,by have:=HR0.2;simp;omega,HQ0⟩
 case round=>
  obtain⟨dn,R,mo,a1,c1,rfl,rfl,rfl,O,G,hR,hlen,hq⟩:=hrel;have HG:=kH G;have HO:=kH O;have HQ:=kH hq;have HRR:=kH hR;have KW:=kH hlen;cases mo with
  |false=>
   go_wp2_with fail;go_ret3;refine⟨?_,HG⟩;unfold RdA;rw[<-HQ.out];unfold rdQ;rw[at6 aq];exact⟨a1,c1,congrArg (fun v=>Ending.returned (.tuple #[v,.slice a1 dn.length c1,.bool true])) HH,Ns.own HO,fun b o hb=>by subst hb;exact(HO.lt b rfl).1⟩
  |true=>
   obtain⟨s1,s2,s3,s4,s5,s6⟩:=mG (c:=32) ab HRR;have fO:=kH s1;have HS3:=kH s3;have rO:=kH s5;have HS6:=kH s6;have CK:=kH s4;have oQ:Hid (∀W:World,_):=fun W=>HC.out R HRR.out (by have:=HS.out;have:=KW.out;omega) W
   have HN1:Hid (∀W:World,Gr w W->_):=fun W G=>HN.out _ s2 (by have:=HS.out;have:=KW.out;omega) W G
   have HD:Hid (rdQ dn R true=(match mE (bO 32 R).1 with
    |none=>none
    |some n=>(gu (splitN 32 R).tail).map ((dn++[n])++·))):=by
    unfold Hid rdQ;have e:=JU ((splitN 32 R).headD []) (splitN 32 R).tail;rw[<-mD 32 R]at e;rw[at7 rfl,e,s1];cases mE ((splitN 32 R).headD [])with
    |none=>rfl
    |some n=>
     simp only[Option.map_map];congr 1;funext l;simp
   rw[show str R=.string (bs R)from rfl];have HBR:=kH (dz R);generalize bs R=BR at *
   generalize(bO 32 R).1=P1 at *
   generalize(bO 32 R).2.1=R1 at *
   generalize(bO 32 R).2.2=t1 at *
   generalize str P1=VP at *
   go_wp2_with fail;refine(oQ _).mono ?_;rintro e w2 ⟨rfl,G2⟩;have HG2:=kH G2;go_wp2_with fail;refine(HN1 _ (HG.trans HG2)).mono ?_;rintro e w3 ⟨rfl,G3⟩;have fQ:=kH (HG2.trans G3);cases hn:mE P1 with
   |none=>
    rw[show nv none=.tuple #[.int .u32 0,.bool false]from rfl];go_wp2_with fail;go_ret3;refine⟨?_,HG.trans fQ⟩;unfold RdA;rw[<-HQ.out,HD.out,hn];exact rfl
   |some n=>
    rw[show nv (some n)=.tuple #[.int .u32 n,.bool true]from rfl];have HNN:=kH hn;have hd:dn.length<=4000000:=by have:=HS.out;have:=KW.out;omega
    have HDL:Hid (dn.length=dn.length):=rfl;generalize hdl:dn.length=q at *
    have HDQ:=kH hdl;go_wp2_with (at_builtin;refine auK _ rfl (.tmp 32) (.tmp 34) 36 rfl w.heap.size 37 i0 (.int .u32 0) 1 4 underlying36 hi hz0 hz1 hz2 rfl an (.slice a1 q c1) q (dn.map fun x:Nat=>Value.int .u32 (x:Int)) rfl (aC HO (fQ.alloc _)) ⟨w3.heap.size,0,none⟩ 1 1 [.int .u32 (n:Int)] rfl rfl (sQ (at5 w3 _)) (fun u hu=>by rw[apE.1 hu];rfl) bj ab (by have:=HG.size;have:=fQ.size;simp;omega) ?_;intro v' w4 hown hgrow _;obtain⟨_,_,a2,c2,rfl⟩:=az hown);have kY:=kH hown;have fC:=kH ((HG.trans (fQ.alloc _)).grown hgrow (fun b hb=>(HO.lt b hb).1));go_wp2_with fail;go_roundw
    case rel=>
     have e1:(dn++[n]).length=q+1:=by rw[apo,HDQ.out];rfl
     refine⟨dn++[n],R1,t1,a2,c2,rfl,rfl,by rw[e1],by rw[e1,aqb];exact kY,fC,HS3,?_,?_⟩
     ·rw[e1];have:=KW;cases t1 with
      |true=>have:=(rO rfl).2;omega
      |false=>
       rw[(HS6.out rfl).2];have h1:=CK;have h2:=UX HNN;have h3:=HDQ;simp only[ap8];omega
     ·rw[<-HQ.out,HD.out,HNN.out];simp only;unfold rdQ;cases t1 with
      |true=>rw[at7 rfl,(rO.out rfl).1]
      |false=>rw[at6 aq,(HS6.out rfl).1];simp[gu]
    case measure=>
     cases t1 with
     |true=>
      have h1:=(rO rfl).2;have h2:=HBR.out;have h3:=dz R1;show(bs R1).size+1<BR.size+1
      omega
     |false=>exact Nat.succ_pos _
end Vp
end Go.Proofs.YtiadhbmnfjfioaaGreatDoor
