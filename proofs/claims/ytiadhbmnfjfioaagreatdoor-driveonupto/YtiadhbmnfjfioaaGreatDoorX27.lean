/- ours -/
import Derived.Test.YtiadhbmnfjfioaaGreatDoorX21
import Derived.Test.YtiadhbmnfjfioaaGreatDoorX26
set_option linter.unusedVariables false
set_option linter.unusedSimpArgs false
set_option maxHeartbeats 8000000
set_option maxRecDepth 100000
set_option linter.unusedSectionVars false
namespace Go.Proofs.YtiadhbmnfjfioaaGreatDoor
open Go.Proofs.Tryz hiding d6 t0 t1 t2 t3 t4 t5 t6 t7
open Go.ChangeShapes Go.WideShapes Go.ChangeAt Go.RowKit
variable [Inhabited Hc.bN]
namespace En
open Mm Hh Hc Mc

theorem zl {w:World}{b:Nat}{d:Qv}{x:Wk}(D:Dq w b d x){z:Nat}{Z:Array Value}(hz:w.heap[z]?=some (.cells Z 142 (0,0)))(cs:Array Value):Dq (w.setRow z cs) b d x:=by
 have st:∀(k:Nat) (o:Array Value) (t:Nat) (f:Nat×Nat),t≠142->w.heap[k]?=some (.cells o t f)->(w.setRow z cs).heap[k]?=w.heap[k]?:=fun k o t f ht e=>auo _ _ _ _ (aa e hz ht)
 exact⟨D.hh,D.n,D.mem.to fun k o f e=>st k o _ f (by decide) e,aj D.out fun k o f e=>st k o _ f (by decide) e,aj D.av fun k o f e=>st k o _ f (by decide) e⟩
theorem Ev.oth {lo mn:Nat}{w w':World}{base g:Nat}{room:Int}{s:Sh}{L:List Kc.Bv}{pu sl:Int}(E:Ev lo w base g room s L pu sl mn){z t0:Nat}{Z:Array Value}{f0:Nat×Nat}(hz:w.heap[z]?=some (.cells Z t0 f0))(ht0:t0≠94/\t0≠5/\t0≠43/\t0≠37/\t0≠64/\t0≠59/\t0≠235)(q:∀k,k≠z->w'.heap[k]?=w.heap[k]?):Ev lo w' base g room s L pu sl mn:=by
 obtain⟨M,gh,hc,O,a,n,cap,mb,D,E⟩:=E;obtain⟨t1,t2,t3,t4,t5,t6,t7⟩:=ht0;have st:∀(k:Nat) (o:Array Value) (t:Nat) (f:Nat×Nat),t0≠t->w.heap[k]?=some (.cells o t f)->w'.heap[k]?=w.heap[k]?:=fun k o t f ht e=>q k (aa e hz (Ne.symm ht))
 refine⟨M,gh,hc,O,a,n,cap,mb,D,⟨E.bw.t1,E.bw.t2,E.bw.t3,E.bw.bg,(st _ _ _ _ t1 E.bw.blk).trans E.bw.blk,E.bw.mem.to fun k o f e=>st k o _ f t2 e,E.bw.bh,E.bw.row.to fun k o f e=>st k o _ f t3 e,aj E.bw.out fun k o f e=>st k o _ f t4 e,⟨E.bw.hz.1.to fun k o f e=>st k o _ f t3 e,E.bw.hz.2⟩⟩,E.bt.to fun k o t f hk ht e=>st k o t f (by rcases ht with rfl|rfl<;>assumption) e,E.cap,E.bm,l8 E.map (q _ (fun e=>?_)),fun b hb=>?_⟩
 ·obtain⟨es,clock,hb,_⟩:=E.map;rw[e,hz]at hb;cases hb
 ·obtain⟨ca,cn,cc,h1,h2⟩:=E.code b hb;exact⟨ca,cn,cc,h1,h2.to fun k o f e=>st k o _ f t7 e⟩
section
variable {w :World} {base g :Nat} {room :Int} {s :Sh} {L L1 :List Kc.Bv} {pu sl p1 :Int} {mn m1 :Nat}
theorem BN (E:Ev 0 w base g room s L pu sl mn){k n c:Nat}(hcl:s.hs.length=c)(hk:k<c)(Oy:Nat){x x1:Wk}(cd:List Mi.Mv)(BA:∀W:World,Gr w W->Calls prog 85 #[.pointer (some ⟨g,0,none⟩),.int .u32 (at' s k).pc] W fun e w'=>∃ba bc ca cn cc,e=.returned (.tuple #[.agg #[.int .u32 (at' s k).pc,.slice ba Oy bc],.slice ca cn cc])/\Ts.Ct w' ca cn cd/\Ev 0 w' base g room s L1 p1 sl m1/\Fm base W w')(BY:∀(W:World) (ba:Option Addr) (bc:Nat),Calls prog 87 #[.agg #[.int .u32 (at' s k).pc,.slice ba Oy bc]] W fun e w'=>e=.returned (.agg #[.int .u32 (at' s k).pc,.int .u32 ((at' s k).pc+4*(Oy:Int))])/\Gr W w')(RN:∀(W:World) (ca:Option Addr) (cn cc:Nat) (ma:Option Addr) (mc:Nat),Below base w W->Mi.Cs W ca cn cd->Own W Hc.mb (.slice ma s.m.length mc) s.m->Calls prog 86 #[.slice ca cn cc,.agg (hA (at' s k)),.slice ma s.m.length mc,.agg #[.int .u32 (at' s k).pc,.int .u32 ((at' s k).pc+4*(Oy:Int))],.int .i64 n] W fun e w'=>∃d,e=.returned (.tuple #[.agg (qA d),.bool true])/\(Dq w' 0 d x/\d.h.Ok)/\Gr W w')(WK:x.n=0->∀W:World,Below base w W->Ev 0 W base g room s L1 p1 sl m1->Calls prog 83 #[.pointer (some ⟨g,0,none⟩),.agg #[.int .i64 k,.int .i64 1]] W fun e w'=>∃d,e=.returned (.agg (qA d))/\(Dq w' 0 d x1/\d.h.Ok)/\Gr W w'):Calls prog 57 #[.pointer (some ⟨g,0,none⟩),.agg #[.int .i64 k,.int .i64 n]] w fun e w'=>∃d,e=.returned (.agg (qA d))/\(Dq w' 0 d (if x.n=0 then x1 else x)/\d.h.Ok)/\Ev 0 w' base g room s L1 p1 sl m1/\Fm base w w':=by
 have HBA:=kH BA;have adT:=kH BY;have HRN:=kH RN;have HWK:=kH WK;obtain⟨M0,gh,hc,O0,a0,n0,cap0,mb0,D0,E0⟩:=E;have hl:k<s.hs.length:=by rw[hcl];exact hk
 have eh:s.hs[k]?=some (at' s k):=by unfold at';rw[api hl];simp[List.getD,hl]
 have jM:=E0.bw.row.ok _ (aps eh);have RG:=kH (E0.bw.row.range eh);have K1:Hid (w.cell? ⟨g,1,none⟩=some (.slice (some ⟨gh,0,none⟩) c hc)):=by have:=E0.bw.c1;rw[hcl]at this;exact this
 have rH:=kH (aD jM);have sJ:Hid ((hL (at' s k)).toArray.size=37):=by unfold Hid;simp[rH.out]
 have HHO:=kH (qC (at' s k));have HPC:=kH (aW jM 0);have HHA:Hid (hA (at' s k)=(hL (at' s k)).toArray):=rfl;have hgl:=E0.bw.lt;have Jo:gh<w.heap.size:=by obtain⟨_,e⟩:=E0.bw.row.row;exact(apk.1 e).1
 have hbl:=E0.ay;have fO:Hid (∀W:World,Gr w W->W.heap[w.heap.size]?=some (.cells #[.int .i64 k,.int .i64 n] 45 (0,0))->(fun W=>W.cell? ⟨g,1,none⟩=some (.slice (some ⟨gh,0,none⟩) c hc)/\W.cell? ⟨w.heap.size,0,none⟩=some (.int .i64 k)/\W.rangeAt gh (k*37) (hL (at' s k))) W):=fun W G e=>
  ⟨(G.cell _ (by exact hgl)).trans K1.out,atZ _ _ _ _ _ _ e,fun j v hv=>(G.cell _ (by exact Jo)).trans (RG.out j v hv)⟩
 clear BA BY RN WK E0 hcl eh jM hl K1 RG;generalize(at' s k).pc=pc at *
 generalize at' s k=h at *
 go_enter func57,ntmps57;go_wp2_with fail;refine aut (S:=fun W=>W.cell? ⟨g,1,none⟩=some (.slice (some ⟨gh,0,none⟩) c hc)/\W.cell? ⟨w.heap.size,0,none⟩=some (.int .i64 k)/\W.rangeAt gh (k*37) (hL h)) (by kernel_rfl) ?_ (fun hHeld=>?_)
 ·exact fO.out _ (((Gr.refl _).alloc _).alloc _).drew (Kc.aX (Gr.refl _).drew (auR w _ _))
 have aY:=kH hHeld;clear hHeld;refine tK 0 (.pointer (some ⟨g,0,none⟩)) aY.out ?_;refine tK 1 (.pointer (some ⟨g,0,none⟩)) aY.out ?_;refine tK 2 (.pointer (some ⟨g,0,none⟩)) aY.out ?_;refine tK 3 (.pointer (some ⟨g,0,none⟩)) aY.out ?_;refine tK 4 (.pointer (some ⟨g,0,none⟩)) aY.out ?_;refine tK 5 (.pointer (some ⟨g,1,none⟩)) aY.out ?_;refine tK 6 (.slice (some ⟨gh,0,none⟩) c hc) aY.out ?_;refine tK 7 (.pointer (some ⟨w.heap.size,0,none⟩)) aY.out ?_;refine tK 8 (.int .i64 k) aY.out ?_;refine tK 9 (.pointer (some ⟨gh,k*37,none⟩)) aY.out ?_;refine auF (i:=10) (v:=.agg (hL h).toArray) rfl (by kernel_rfl) (by kernel_rfl) (by kernel_rfl) (fun _ _ _ h=>h) (auN (by rfl) 43 (.tmp 19) rfl gh (k*37) (by simp[Act.eval]) (hL h) _ (fun W hW=>hW.2.2) underlying43 rfl (by rw[rH.out];exact iH)) aY.out ?_;simp only[apN,apP,apQ,Act.put,apl,apC,apy];refine aue (rs:=[11]) (by kernel_rfl) (by simp) ?_;refine aua rfl (fun K hK=>?_) aud;go_simp;refine hK.out _ _ ?_ (fun _=>?_)
 ·exact fO.out _ (jm _ _ _ _) (jd _ _ _ _ _)
 clear hK K aY;refine bu (i:=12) (by kernel_rfl) rfl rfl 43 (.tmp 5) (.tmp 20) rfl (w.heap.size+2) (hL h).toArray (by simp[Act.eval]) (by simp[Act.eval]) 43 _ (ni _ _ _ _) (by rw[sJ.out];exact iH) (by rw[sJ.out];rfl) HHO.out ?_ ?_
 ·refine fO.out _ (ag (jm _ _ _ _) (by omega) _) ?_;rw[auo _ _ _ _ (by omega)];exact jd _ _ _ _ _
 refine auy (by kernel_rfl) ?_ _;refine aT (fun W=>W.heap[w.heap.size]?=some (.cells #[.int .i64 k,.int .i64 n] 45 (0,0))/\(∃Z:Array Value,Z.size=41/\W.heap[w.heap.size+1]?=some (.cells Z 142 (0,0)))/\W.heap[w.heap.size+2]?=some (.cells (hL h).toArray 43 (0,0))/\Gr w W) ?_ ?_
 ·refine⟨?_,⟨qA ⟨h0,ax,ax,0,ax⟩,fG (d:=⟨h0,ax,ax,0,ax⟩) iO,?_⟩,aup _ _ _ _ _ (0,0) (ni _ _ _ _),ag (jm _ _ _ _) (by omega) _⟩
  ·rw[auo _ _ _ _ (by omega)];exact jd _ _ _ _ _
  ·rw[auo _ _ _ _ (by omega)];exact wV _ _ _ _ _
 rintro W ⟨KP,⟨Z,hZ,KD⟩,KH,GW⟩;have QX:=kH KP;have HD1:=kH KD;have HH1:=kH KH;have zT:=kH GW;have HZ:=kH hZ;obtain⟨hb,hhb⟩:∃hb:Nat,hb=w.heap.size+2:=⟨_,rfl⟩;rw[<-hhb]at HH1 ⊢;have kpc:W.cell? ⟨hb,32,none⟩=some (.int .u32 pc):=(atZ _ _ _ _ _ _ HH1.out).trans (by rw[apm];exact HPC.out);clear KP KD KH GW hZ fO hhb;go_wp2_with fail;refine(HBA.out _ zT.out).mono ?_;rintro e w3 ⟨ba,bc,ca,cn,cc,rfl,C3,E3,F3⟩;have zP:=kH C3;have Q9:=kH E3;have Jj:=kH ((Fm.bD zT.out hbl).trans F3);have KS:=kH (F3.row QX.out (by decide));have HD3:=kH (F3.row HD1.out (by decide));have HH3:=kH (F3.row HH1.out (by decide));clear C3 E3 F3 HBA QX HD1 HH1 zT kpc;clear W;go_wp2_with fail;obtain⟨M,gh1,hc1,O1,a1,n1,al6,mb1,D1,E4⟩:=Q9.out;obtain⟨ma,mc,rfl, -⟩:=E4.bw.mem.mem;have Ra:=kH E4;clear E4;generalize hw4:w3.alloc (.cells #[.int .u32 pc,.slice ba Oy bc] 64)=w4 at *
 have fC:Hid (Gr w3 w4):=by rw[<-hw4];exact(Gr.refl w3).alloc _
 have sj:Hid (w4.heap[w3.heap.size]?=some (.cells #[.int .u32 pc,.slice ba Oy bc] 64 (0,0))):=by rw[<-hw4];exact at5 w3 _
 clear hw4;have hlt3:=(apk.1 HD3.out).1;have HS:Hid (∀W:World,Gr w4 W->(fun W=>W.rangeAt hb 0 (hL h)/\W.cell? ⟨g,0,none⟩=some (.slice ma s.m.length mc)/\W.cell? ⟨w3.heap.size,0,none⟩=some (.int .u32 pc)/\W.cell? ⟨w3.heap.size,1,none⟩=some (.slice ba Oy bc)/\W.cell? ⟨w.heap.size,1,none⟩=some (.int .i64 n)) W):=fun W G=>by
  have GA:=fC.out.trans G;have X:=Ra.out.of GA;have e1:=Kc.aX GA HH3.out;have e2:=Kc.aX G sj.out;have e3:=Kc.aX GA KS.out;refine⟨fun j v hv=>?_,X.bw.c0,atZ _ _ _ _ _ _ e2,atZ _ _ _ _ _ _ e2,atZ _ _ _ _ _ _ e3⟩;rw[apu,atZ _ _ _ _ _ _ e1,apm];exact hv
 have HBy:Hid (∀W:World,_):=fun W=>adT.out W ba bc
 have UB:Hid (∀W:World,Gr w4 W->Calls prog 86 #[.slice ca cn cc,.agg (hL h).toArray,.slice ma s.m.length mc,.agg #[.int .u32 pc,.int .u32 (pc+4*(Oy:Int))],.int .i64 n] W fun e w'=>∃d,e=.returned (.tuple #[.agg (qA d),.bool true])/\(Dq w' 0 d x/\d.h.Ok)/\Gr W w'):=fun W G=>by
  have GA:=fC.out.trans G;have:=HRN.out W ca cn cc ma mc (Jj.out.below.trans (aun GA (apr hbl (by omega)))) (zP.out.of GA).cs (gT Ra.out.bw.mem GA);rw[HHA.out]at this;exact this
 clear adT HRN zP;generalize s.m.length=mln at *
 generalize pc+4*(Oy:Int)=pt at *
 apply Kc.share
 ·intro jO;refine aut (S:=fun W=>W.rangeAt hb 0 (hL h)/\W.cell? ⟨g,0,none⟩=some (.slice ma mln mc)/\W.cell? ⟨w3.heap.size,0,none⟩=some (.int .u32 pc)/\W.cell? ⟨w3.heap.size,1,none⟩=some (.slice ba Oy bc)/\W.cell? ⟨w.heap.size,1,none⟩=some (.int .i64 n)) (by kernel_rfl) ?_ (fun hHeld=>?_)
  ·exact HS.out _ (Gr.refl _).drew
  have aY:=kH hHeld;clear hHeld;refine tK 0 (.slice ca cn cc) aY.out ?_;refine auF (i:=1) (v:=.agg (hL h).toArray) rfl (by kernel_rfl) (by kernel_rfl) (by kernel_rfl) (fun _ _ _ h=>h) (auN (by rfl) 43 (.tmp 5) rfl hb 0 (by simp[Act.eval]) (hL h) _ (fun W hW=>hW.1) underlying43 rfl (by rw[rH.out];exact iH)) aY.out ?_;simp only[apN,apP,apQ,Act.put,apl,apC,apy];refine tK 2 (.pointer (some ⟨g,0,none⟩)) aY.out ?_;refine tK 3 (.pointer (some ⟨g,0,none⟩)) aY.out ?_;refine tK 4 (.pointer (some ⟨g,0,none⟩)) aY.out ?_;refine tK 5 (.pointer (some ⟨g,0,none⟩)) aY.out ?_;refine tK 6 (.pointer (some ⟨g,0,none⟩)) aY.out ?_;refine tK 7 (.pointer (some ⟨g,0,none⟩)) aY.out ?_;refine tK 8 (.slice ma mln mc) aY.out ?_;refine tK 9 (.agg #[.int .u32 pc,.slice ba Oy bc]) aY.out ?_;refine tK 11 (.pointer (some ⟨w.heap.size,1,none⟩)) aY.out ?_;refine tK 12 (.int .i64 n) aY.out ?_;refine aue (rs:=[10,17]) (by kernel_rfl) (by simp) ?_;refine aua rfl (fun K hK=>?cf) (aua rfl (fun K hK=>?af) aud)
  case cf=>
   go_simp;refine(HBy.out _).mono ?_;rintro e wb ⟨rfl,Gb⟩;have CO:=kH (Gr.trans ((Gr.refl _).drew) Gb);clear Gb;refine hK.out _ _ (HS.out _ CO.out) (fun hx=>?_);clear hK K hx;refine aue (rs:=[13,17]) (by kernel_rfl) (by simp) ?_;refine aua rfl (fun K hK=>?cf2) (aua rfl (fun K hK=>?af2) aud)
   case cf2=>
    go_simp;refine(UB.out _ (CO.out)).mono ?_;rintro e wd ⟨d,rfl,DD,Gd⟩;have Oz:=kH DD;have gp:=kH (Gr.trans (CO.out) Gd);have qw:=kH (fG DD.2);have CQ:=kH (lW DD.1.mem.cells.2 (az DD.1.out).2.1 (az DD.1.av).2.1);clear DD;refine hK.out _ _ (HS.out _ gp.out) (fun hx=>?_);clear hK K hx;clear Gd;have fO:Hid _:=HS.out _ gp.out;refine tK 14 (.tuple #[.agg (qA d),.bool true]) fO.out ?_;refine tK 15 (.agg (qA d)) fO.out ?_;refine tK 16 (.bool true) fO.out ?_;refine aue (rs:=[17]) (by kernel_rfl) (by simp) ?_;refine aua rfl (fun K hK=>?_) aud;go_simp;refine hK.out _ _ (HS.out _ (gp.out.alloc _)) (fun hx=>?_);clear hK K hx;refine bu (i:=18) (by kernel_rfl) rfl rfl 142 (.tmp 8) (.tmp 43) rfl wd.heap.size (qA d) (by simp[Act.eval]) (by simp[Act.eval]) 142 _ (at5 wd _) (by rw[qw.out];exact iQ) (by rw[qw.out];rfl) CQ.out ?_ ?_
    ·exact HS.out _ (ag (gp.out.alloc _) gp.out.size _)
    refine tK 19 (.bool true) (HS.out _ (ag (gp.out.alloc _) gp.out.size _)) ?_;refine auy (by kernel_rfl) ?_ _;refine aT (fun W=>W.heap[wd.heap.size]?=some (.cells (qA d) 142 (0,0))/\(Dq W 0 d x/\d.h.Ok)/\Gr w4 W) ⟨aup _ _ _ _ _ (0,0) (at5 wd _),⟨Oz.out.1.gr (ag ((Gr.refl _).alloc _) (apn _) _),Oz.out.2⟩,ag (gp.out.alloc _) gp.out.size _⟩ ?_;obtain⟨o,ho⟩:∃o:Nat,o=wd.heap.size:=⟨_,rfl⟩;rw[<-ho];clear ho Oz fO gp qw CQ CO ;clear wd;clear wb
    revert o d
    exact jO.out
   case af2=>
    go_simp;refine hK.out _ _ (HS.out _ (CO.out.alloc _)) (fun hx=>?_);clear hK K hx;refine aue (rs:=[13]) (by kernel_rfl) (by simp) ?_;refine aua rfl (fun K hK=>?_) aud;go_simp;refine(UB.out _ (CO.out.alloc _)).mono ?_;rintro e wd ⟨d,rfl,DD,Gd⟩;have Oz:=kH DD;have gp:=kH (Gr.trans (CO.out.alloc _) Gd);have qw:=kH (fG DD.2);have CQ:=kH (lW DD.1.mem.cells.2 (az DD.1.out).2.1 (az DD.1.av).2.1);clear DD;have sM:=kH (Kc.aX Gd (at5 wb _));clear Gd;refine hK.out _ _ (HS.out _ gp.out) (fun hx=>?_);clear hK K hx;have fO:Hid _:=HS.out _ gp.out;refine tK 14 (.tuple #[.agg (qA d),.bool true]) fO.out ?_;refine tK 15 (.agg (qA d)) fO.out ?_;refine tK 16 (.bool true) fO.out ?_;refine bu (i:=18) (by kernel_rfl) rfl rfl 142 (.tmp 8) (.tmp 43) rfl wb.heap.size (qA d) (by simp[Act.eval]) (by simp[Act.eval]) 142 _ sM.out (by rw[qw.out];exact iQ) (by rw[qw.out];rfl) CQ.out ?_ ?_
    ·exact HS.out _ (ag gp.out CO.out.size _)
    refine tK 19 (.bool true) (HS.out _ (ag gp.out CO.out.size _)) ?_;refine auy (by kernel_rfl) ?_ _;refine aT (fun W=>W.heap[wb.heap.size]?=some (.cells (qA d) 142 (0,0))/\(Dq W 0 d x/\d.h.Ok)/\Gr w4 W) ⟨aup _ _ _ _ _ (0,0) sM.out,⟨zl Oz.out.1 sM.out _,Oz.out.2⟩,ag gp.out CO.out.size _⟩ ?_;obtain⟨o,ho⟩:∃o:Nat,o=wb.heap.size:=⟨_,rfl⟩;rw[<-ho];clear ho Oz fO gp qw CQ CO sM;clear wd;clear wb
    revert o d
    exact jO.out
  case af=>
   go_simp;refine hK.out _ _ (HS.out _ ((Gr.refl _).alloc _).drew) (fun hx=>?_);clear hK K hx;refine aue (rs:=[10]) (by kernel_rfl) (by simp) ?_;refine aua rfl (fun K hK=>?_) aud;go_simp;refine(HBy.out _).mono ?_;rintro e wb ⟨rfl,Gb⟩;have CO:=kH (Gr.trans (((Gr.refl _).alloc _).drew) Gb);have HNb:=kH (Kc.aX Gb (Kc.aX (Gr.refl _).drew (at5 w4 _)));clear Gb;refine hK.out _ _ (HS.out _ CO.out) (fun hx=>?_);clear hK K hx;refine aue (rs:=[13]) (by kernel_rfl) (by simp) ?_;refine aua rfl (fun K hK=>?_) aud;go_simp;refine(UB.out _ (CO.out)).mono ?_;rintro e wd ⟨d,rfl,DD,Gd⟩;have Oz:=kH DD;have gp:=kH (Gr.trans (CO.out) Gd);have qw:=kH (fG DD.2);have CQ:=kH (lW DD.1.mem.cells.2 (az DD.1.out).2.1 (az DD.1.av).2.1);clear DD;have sM:=kH (Kc.aX Gd HNb.out);clear Gd;refine hK.out _ _ (HS.out _ gp.out) (fun hx=>?_);clear hK K hx;have fO:Hid _:=HS.out _ gp.out;refine tK 14 (.tuple #[.agg (qA d),.bool true]) fO.out ?_;refine tK 15 (.agg (qA d)) fO.out ?_;refine tK 16 (.bool true) fO.out ?_;refine bu (i:=18) (by kernel_rfl) rfl rfl 142 (.tmp 8) (.tmp 43) rfl w4.heap.size (qA d) (by simp[Act.eval]) (by simp[Act.eval]) 142 _ sM.out (by rw[qw.out];exact iQ) (by rw[qw.out];rfl) CQ.out ?_ ?_
   ·exact HS.out _ (ag gp.out (apn _) _)
   refine tK 19 (.bool true) (HS.out _ (ag gp.out (apn _) _)) ?_;refine auy (by kernel_rfl) ?_ _;refine aT (fun W=>W.heap[w4.heap.size]?=some (.cells (qA d) 142 (0,0))/\(Dq W 0 d x/\d.h.Ok)/\Gr w4 W) ⟨aup _ _ _ _ _ (0,0) sM.out,⟨zl Oz.out.1 sM.out _,Oz.out.2⟩,ag gp.out (apn _) _⟩ ?_;obtain⟨o,ho⟩:∃o:Nat,o=w4.heap.size:=⟨_,rfl⟩;rw[<-ho];clear ho Oz fO gp qw CQ CO sM HNb;clear wd;clear wb
   revert o d
   exact jO.out
 ·intro d o W ⟨KO,KQ,GW⟩;have HQ:=kH KQ;have lu:=kH (fC.out.trans GW);have HO5:=kH KO;have QZ:=kH (Kc.aX lu.out KS.out);have HD5:=kH (Kc.aX lu.out HD3.out);have Gp:=kH (Q9.out.of lu.out);have KT:=kH (Jj.out.trans (Fm.bD lu.out (apr hbl (by omega))));have KI:W.cell? ⟨o,39,none⟩=some (.int .i64 x.n):=(atZ _ _ _ _ _ _ KO).trans (by rw[jl KQ.2 2];simp[KQ.1.n]);clear KO KQ GW HS HBy UB Ra Q9 sj KS HD3 HH3 fC lu Jj hlt3;clear w4;by_cases hx0:x.n=0
  ·rw[hx0]at KI;have HX0:=kH hx0;have HW5:Hid (∀V:World,Gr W V->_):=fun V G=>HWK.out hx0 V (KT.out.below.trans (aun G (apr hbl (by have:=(apk.1 HD5.out).1;omega)))) (Gp.out.of G)
   have rO:Hid (∀V:World,Gr W V->V.cell? ⟨w.heap.size,0,none⟩=some (.int .i64 k)):=fun V G=>atZ _ _ _ _ _ _ (Kc.aX G QZ.out)
   clear hx0 HWK;go_wp2_with fail;refine aut (S:=fun W=>W.cell? ⟨w.heap.size,0,none⟩=some (.int .i64 k)) (by kernel_rfl) ?_ (fun hHeld=>?_)
   ·exact rO.out _ (Gr.refl _).drew
   have aY:=kH hHeld;clear hHeld;refine tK 0 (.pointer (some ⟨g,0,none⟩)) aY.out ?_;refine tK 1 (.pointer (some ⟨g,0,none⟩)) aY.out ?_;refine tK 2 (.pointer (some ⟨g,0,none⟩)) aY.out ?_;refine tK 3 (.pointer (some ⟨w.heap.size,0,none⟩)) aY.out ?_;refine tK 4 (.int .i64 k) aY.out ?_;refine tK 5 (.agg #[.int .i64 k,.int .i64 1]) aY.out ?_;refine aue (rs:=[6]) (by kernel_rfl) (by simp) ?_;refine aua rfl (fun K hK=>?_) aud;go_simp;refine(HW5.out _ (Gr.refl _).drew).mono ?_;rintro e w6 ⟨d6,rfl,Q6,G6⟩;have HQ6:=kH Q6;have oL:Hid (Gr W w6):=(Gr.refl _).drew.trans G6;have qw:=kH (fG Q6.2);have CQ:=kH (lW Q6.1.mem.cells.2 (az Q6.1.out).2.1 (az Q6.1.av).2.1);have HD6:=kH (Kc.aX oL.out HD5.out);have HP6:=kH (Kc.aX oL.out QZ.out);clear Q6 G6;refine hK.out _ _ (rO.out _ oL.out) (fun hx=>?_);clear hK K hx;refine bu (i:=7) (by kernel_rfl) rfl rfl 142 (.tmp 4) (.tmp 58) rfl (w.heap.size+1) (qA d6) (by simp[Act.eval]) (by simp[Act.eval]) 142 Z HD6.out (by rw[qw.out];exact iQ) (by rw[qw.out];exact HZ.out) CQ.out ?_ ?_
   ·exact atZ _ _ _ _ _ _ ((auo _ _ _ _ (by omega)).trans HP6.out)
   refine auy (by kernel_rfl) ?_ _;go_wp2_with fail;refine auc (v:=.agg (qA d6)) (auD rfl _ _ _ _ _ (0,0) _ rfl (aup _ _ _ _ _ (0,0) HD6.out) underlying142 rfl (by rw[qw.out];exact iQ)) rfl ⟨d6,rfl,⟨?_,HQ6.out.2⟩,?_,?_⟩
   ·exact zl HQ6.out.1 HD6.out _
   ·exact(Gp.out.of oL.out).oth HD6.out (by decide) fun k hk=>auo _ _ _ _ hk
   ·exact(KT.out.trans (Fm.bD oL.out (apr hbl (by have:=(apk.1 HD5.out).1;omega)))).setRow (by omega) (by omega) _
  ·have hx2:((x.n:Int) ==0)=false:=by simp;omega
   have HX0:=kH hx0;have qw:=kH (fG HQ.out.2);have CQ:=kH (lW HQ.out.1.mem.cells.2 (az HQ.out.1.out).2.1 (az HQ.out.1.av).2.1);clear hx0 HWK;generalize hQA:qA d=QA at *
   have HQA:Hid (qA d=QA):=hQA;clear hQA
   go_wp2_with (first
    |(refine auL rfl 142 _ rfl o rfl 142 QA (0,0) _ ?ll1 underlying142 rfl (by rw[qw.out];exact iQ) ?_;(case ll1=>exact HO5.out))
    |(refine auf rfl 142 _ _ rfl (w.heap.size+1) QA rfl rfl 142 Z ?ss1 (by rw[qw.out];exact iQ) (by rw[qw.out];exact HZ.out) CQ.out ?_;(case ss1=>exact HD5.out)))
   refine auc (v:=.agg QA) (auD rfl _ _ _ _ _ (0,0) _ rfl (aup _ _ _ _ _ (0,0) HD5.out) underlying142 rfl (by rw[qw.out];exact iQ)) rfl ⟨d,by rw[HQA.out],⟨?_,HQ.out.2⟩,?_,?_⟩
   ·exact zl HQ.out.1 HD5.out _
   ·exact Gp.out.oth HD5.out (by decide) fun k hk=>auo _ _ _ _ hk
   ·exact KT.out.setRow (by omega) (by omega) _
end
end En
namespace En
open Mm Hh Hc Mc

structure nI (b:Nat) (w:World):Prop where
 tt:TT w b
 tr:Mp.Tr w
 trb:7<b
 ts:Gc.Ts w b
 tq:Ts.Tq w
 tqb:6<b
theorem nI.below {b :Nat} {w w' :World} (T :nI b w) (h :Below b w w') :nI b w' :=
  ⟨⟨⟨fun i n e => (auJ h (by exact T.tt.b1)).trans (T.tt.tab.shapes i n e), fun i n e => (auJ h (by exact T.tt.b2)).trans (T.tt.tab.uppers i n e)⟩, ⟨fun i n e => (auJ h (by exact T.tt.tb.b1)).trans (T.tt.tb.sizes i n e), fun i n e => (auJ h (by exact T.tt.tb.b2)).trans (T.tt.tb.opers i n e), T.tt.tb.b1, T.tt.tb.b2⟩, T.tt.b1, T.tt.b2⟩,
   ⟨fun i n e => (auJ h (by exact T.trb)).trans (T.tr.rows i n e), apq T.tr.b h.size⟩, T.trb, Gc.nO T.ts h, fun k n e => (auJ h (by exact T.tqb)).trans (T.tq k n e), T.tqb⟩
theorem nI.tt' {b:Nat}{w:World}(T:nI b w)(h:b<=w.heap.size):TT w w.heap.size:=⟨T.tt.tab,⟨T.tt.tb.sizes,T.tt.tb.opers,apq T.tt.tb.b1 h,apq T.tt.tb.b2 h⟩,apq T.tt.b1 h,apq T.tt.b2 h⟩
theorem nI.ts' {b:Nat}{w:World}(T:nI b w)(h:b<=w.heap.size):Gc.Ts w w.heap.size:=⟨T.ts.sizes,apq T.ts.b1 h⟩
theorem OA {w:World}{a:Option Addr}{n c:Nat}{l:List UInt8}(h:Own w Hc.mb (.slice a n c) l):a=none->c=0:=by
 intro e;subst e;rcases h with⟨h0,_⟩|⟨g,cap,hv,_⟩
 ·injection h0
 ·injection hv with h1;cases h1
theorem aac {w:World}{ca:Option Addr}{cn cc:Nat}{cd:List Mi.Mv}(C:Mi.Cs w ca cn cd){b:Nat}(T:nI b w)(hb:b<=w.heap.size)(hl:cd.length<=1000)(hm:Mi.nZ cd=true){h:Hv}(o:h.Ok){ma:Option Addr}{mc:Nat}{l:List UInt8}(M:Own w Hc.mb (.slice ma l.length mc) l)(lY:l.length<=4096)(bf bt:Int){n:Nat}(hn:n<=400)(hh:may h=true)(hs:h.state=0)(hmb:Hc.mb<=w.heap.size):Calls prog 86 #[.slice ca cn cc,.agg (hA h),.slice ma l.length mc,.agg #[.int .u32 bf,.int .u32 bt],.int .i64 n] w fun e w'=>∃d,e=.returned (.tuple #[.agg (qA d),.bool true])/\(Dq w' 0 d (Dy (Mi.dC bf bt n h l cd))/\d.h.Ok)/\Gr w w':=by
 obtain⟨xB,mc',hM,MM⟩:=M.mem;injection hM with h1 h2 h3;subst h1 h3;have hcn:=C.len;refine(Mp.UA cc C T.tr (T.ts' hb) (by omega) hm o MM (OA M) bf bt n (by omega) (by omega) hh hs lY hmb).mono ?_;rintro e w' ⟨M2,O2,S2,rfl,D2,W2,G2⟩;refine⟨⟨(Mi.dC bf bt n h l cd).h,M2,O2,(Mi.dC bf bt n h l cd).n,S2⟩,rfl,⟨⟨rfl,rfl,W2,?_,?_⟩,D2.ok.h⟩,G2⟩
 ·obtain⟨b1,h⟩:=D2.out;exact Bk.kD h (apF _)
 ·obtain⟨b1,h⟩:=D2.av;exact Bk.kD h (apF _)
theorem aad {w:World}{b:Nat}{d:Qv}{x:Wk}(D:Dq w b d x):Dq w 0 d x:=⟨D.hh,D.n,D.mem,Bk.kD D.out (apF _),Bk.kD D.av (apF _)⟩
theorem UC {l:List UInt8}{pc:Int}(h0:0<=pc)(h1:pc<4294967296)(hz:(Bk.blk l pc 16 0).length=0):¬Bk.jR l pc=0:=by
 intro e;have ha:Bk.at4 pc 0=pc:=by unfold Bk.at4 Wd.lo;omega
 rw[Bk.blk,ha,at7 e]at hz;simp at hz
section
variable {w :World} {base g :Nat} {room :Int} {s :Sh} {L L1 :List Kc.Bv} {pu sl p1 :Int} {mn m1 :Nat}
theorem rP (E:Ev 0 w base g room s L pu sl mn){b:Nat}(T:nI b w)(hbb:b≤base){c ml:Nat}(F:Fit s c ml)(lY:ml≤4096)(hc4:c≤4){k n:Nat}(hk:k<c)(hn:n≤400)(hst:(at' s k).state=0)(is:List Ts.Iv)(hfit:(at' s k).pc+4*(is.length:Int)≤4294967295)(h16:is.length≤16)(hlen:(Ts.aS (at' s k).pc is 0).length≤1000)(ze:Mi.nZ (Ts.aS (at' s k).pc is 0)=true)(hf:(Dy (Mi.dC (at' s k).pc ((at' s k).pc+4*(is.length:Int)) n (at' s k) s.m (Ts.aS (at' s k).pc is 0))).n=0→¬Bk.jR s.m (at' s k).pc=0)(BA:∀W:World,Gr w W->Calls prog 85 #[.pointer (some ⟨g,0,none⟩),.int .u32 (at' s k).pc] W fun e w'=>∃ba bc ca cn cc,e=.returned (.tuple #[.agg #[.int .u32 (at' s k).pc,.slice ba is.length bc],.slice ca cn cc])/\Ts.Ct w' ca cn (Ts.aS (at' s k).pc is 0)/\Ev 0 w' base g room s L1 p1 sl m1/\Fm base W w'):Calls prog 57 #[.pointer (some ⟨g,0,none⟩),.agg #[.int .i64 k,.int .i64 n]] w fun e w'=>∃d,e=.returned (.agg (qA d))/\(Dq w' 0 d (if(Dy (Mi.dC (at' s k).pc ((at' s k).pc+4*(is.length:Int)) n (at' s k) s.m (Ts.aS (at' s k).pc is 0))).n=0 then wk (w0 s k) 1 else Dy (Mi.dC (at' s k).pc ((at' s k).pc+4*(is.length:Int)) n (at' s k) s.m (Ts.aS (at' s k).pc is 0)))/\d.h.Ok)/\Ev 0 w' base g room s L1 p1 sl m1/\Fm base w w':=by
 have W0:=pQ F hk;have jM:(at' s k).Ok:=W0.ok;have hmy:may (at' s k)=true:=W0.may;have hbs:base<=w.heap.size:=by
  obtain⟨_,_,_,_,_,_,_,_,_,E⟩:=E;exact E.ay
 have ahs:Hc.mb<=base:=by
  obtain⟨_,_,_,_,_,_,_,_,_,E⟩:=E;exact E.bw.hz.2
 have hmm:s.m.length<=4096:=by have:=F.mem;omega
 refine BN E F.len hk is.length (x1:=wk (w0 s k) 1) _ BA (fun W ba bc=>?_) (fun W ca cn cc ma mc hB C M=>?_) (fun hx W hB EW=>?_)
 ·have:=Kc.wJ W ⟨jM.nH,jM.jV⟩ ba (n:=is.length) (by omega) bc;have e:min ((at' s k).pc+4*(is.length:Int)) 4294967295=(at' s k).pc+4*(is.length:Int):=by rw[Int.min_def,at7 hfit]
  rw[e]at this;exact this
 ·exact aac C (T.below (aun hB hbb)) (apr hbb (apr hbs hB.size)) hlen ze jM M hmm _ _ hn hmy hst (apr ahs (apr hbs hB.size))
 ·obtain⟨M,gh,hc,O,a,n',cap,mb,D,EW⟩:=EW;refine(Jp EW.bw F lY ((T.below (aun hB hbb)).tt' (apr hbb (apr hbs hB.size))) hk hc4 (hf hx)).mono ?_;rintro e w' ⟨d,rfl,o,Dd,G⟩;exact⟨d,rfl,⟨aad Dd,o⟩,G⟩
theorem BO (E:Ev 0 w base g room s L pu sl mn)(K:Ek room s.m L pu sl mn){b:Nat}(T:nI b w)(hbb:b<=base){c ml:Nat}(F:Fit s c ml)(lY:ml<=4096)(hc4:c<=4)(hr0:0<=room)(hr1:room<=64)(lU:mn<=1000000){k n:Nat}(hk:k<c)(hn0:0<n)(hn:n<=400)(hst:(at' s k).state=0):Calls prog 57 #[.pointer (some ⟨g,0,none⟩),.agg #[.int .i64 k,.int .i64 n]] w fun e w'=>∃(d:Qv) (cN:Nat) (L1:List Kc.Bv) (p1:Int) (m1:Nat),e=.returned (.agg (qA d))/\(Dq w' 0 d (wk (w0 s k) cN)/\d.h.Ok)/\((wk (w0 s k) cN).n=cN/\0<cN/\cN<=n)/\Ev 0 w' base g room s L1 p1 sl m1/\Ek room s.m L1 p1 sl m1/\(mn<=m1/\m1<=mn+1/\(L=[]->0<(Bk.blk s.m (at' s k).pc 16 0).length->mn<m1))/\Fm base w w':=by
 have W0:=pQ F hk;have jM:(at' s k).Ok:=W0.ok;have hmy:=W0.may;have hmm:s.m.length<=4096:=by have:=F.mem;omega
 have hkl:k<s.hs.length:=by rw[F.len];exact hk
 have hbs:base<=w.heap.size:=by
  obtain⟨_,_,_,_,_,_,_,_,_,E⟩:=E;exact E.ay
 have hL:=K.same hr1
 -- a fresh block
 have fr:∀(B:Kc.Bv) (L1:List Kc.Bv) (p1:Int) (m1:Nat),dS s.m B->B.pc=(at' s k).pc->Ek room s.m L1 p1 sl m1->(mn<=m1/\m1<=mn+1/\(L=[]->0<(Bk.blk s.m (at' s k).pc 16 0).length->mn<m1))->(∀W:World,Gr w W->Calls prog 85 #[.pointer (some ⟨g,0,none⟩),.int .u32 (at' s k).pc] W fun e w'=>∃ba bc ca cn cc,e=.returned (.tuple #[.agg #[.int .u32 (at' s k).pc,.slice ba B.is.length bc],.slice ca cn cc])/\Ts.Ct w' ca cn (Ts.aS (at' s k).pc B.is 0)/\Ev 0 w' base g room s L1 p1 sl m1/\Fm base W w')->
   Calls prog 57 #[.pointer (some ⟨g,0,none⟩),.agg #[.int .i64 k,.int .i64 n]] w fun e w'=>∃(d:Qv) (cN:Nat) (L1:List Kc.Bv) (p1:Int) (m1:Nat),e=.returned (.agg (qA d))/\(Dq w' 0 d (wk (w0 s k) cN)/\d.h.Ok)/\((wk (w0 s k) cN).n=cN/\0<cN/\cN<=n)/\Ev 0 w' base g room s L1 p1 sl m1/\Ek room s.m L1 p1 sl m1/\(mn<=m1/\m1<=mn+1/\(L=[]->0<(Bk.blk s.m (at' s k).pc 16 0).length->mn<m1))/\Fm base w w':=by
  intro B L1 p1 m1 FB hp K1 hm1 BA;obtain⟨c0,h1,h2,h3,h4,h5,_⟩:=Jc hkl FB hmm jM hmy hst hp.symm (steps:=n) (by omega);have hfit:=(oD FB hmm).fit;have hln:=(Ts.ji B.pc B.is 0 (AV FB)).2;have h16:=FB.len;rw[hp]at h4 h5 hfit hln;have hne:¬(Dy (Mi.dC (at' s k).pc ((at' s k).pc+4*(B.is.length:Int)) n (at' s k) s.m (Ts.aS (at' s k).pc B.is 0))).n=0:=by
   show¬(Mi.dC (at' s k).pc ((at' s k).pc+4*(B.is.length:Int)) n (at' s k) s.m (Ts.aS (at' s k).pc B.is 0)).n=0
   rw[h4];omega
  refine(rP E T hbb F lY hc4 hk hn hst B.is (by omega) h16 (by omega) (by have:=Jb FB;rwa[hp]at this) (fun e=>absurd e hne) BA).mono ?_;rintro e w' ⟨d,rfl,hd,E',F'⟩;rw[at6 hne,h5]at hd;have hN:(wk (w0 s k) c0).n=c0:=by rw[<-h5];exact h4
  exact⟨d,c0,L1,p1,m1,rfl,hd,⟨hN,h1,by omega⟩,E',K1,hm1,F'⟩
 obtain⟨M,gh,hc,O,a,n',cap,mb,D,EW⟩:=id E;have hn':n'<=64:=by have:=EW.bt.bs.len;omega
 have UD:∀W:World,Gr w W->Dw.nK W/\Ts.Tq W:=fun W G=>⟨(T.below (aun G (apr hbb hbs))).tt.tab,(T.below (aun G (apr hbb hbs))).tq⟩
 by_cases hp:0<=Kc.place (at' s k).pc L 0
 ·obtain⟨hm,hpc,FB⟩:=K.found hp;refine fr (Kc.wH (at' s k).pc L) L pu mn FB hpc K ⟨apn _,aqi _,fun e=>?_⟩ fun W G=>?_
  ·subst e;exact absurd hm (by simp)
  ·refine(BJ (EW.of G) (by omega) jM.nH jM.jV hp hm hpc).mono ?_;rintro e w' ⟨ba,bc,ca,cn,cc,rfl,C,G'⟩;exact⟨ba,bc,ca,cn,cc,rfl,C,E.of (G.trans G'),Fm.bD G' (apr hbs G.size)⟩
 ·have hp1:Kc.place (at' s k).pc L 0 = -1:=by
   rcases Kc.fU (at' s k).pc L 0 with h|⟨j,x,h,_⟩
   ·exact h
   ·omega
  by_cases hz:(Bk.blk s.m (at' s k).pc 16 0).length=0
  ·refine(rP (L1:=L) (p1:=pu) (m1:=mn) E T hbb F lY hc4 hk hn hst [] (by have:=jM.jV;simp;omega) (by simp) (by simp[Ts.aS]) rfl (fun _=>UC jM.nH jM.jV hz) (fun W G=>?_)).mono ?_
   ·refine(uN (EW.of G) (by omega) hL hr0 hr1 lU jM.nH jM.jV hp1 hmm (UD W G).1 (UD W G).2).mono ?_;rintro e w' ⟨ba,bc,ca,cn,cc,rfl,C,E0,_,F'⟩;have hx:Bk.blk s.m (at' s k).pc 16 0=[]:=apX hz;rw[hx]at C;exact⟨ba,bc,ca,cn,cc,by rw[hx];rfl,C,E0 hz,F'⟩
   ·rintro e w' ⟨d,rfl,hd,E',F'⟩;have h0:(Dy (Mi.dC (at' s k).pc ((at' s k).pc+4*(([]:List Ts.Iv).length:Int)) n (at' s k) s.m (Ts.aS (at' s k).pc [] 0))).n=0:=rfl;rw[at7 h0]at hd;refine⟨d,1,L,pu,mn,rfl,hd,⟨?_,Nat.one_pos,hn0⟩,E',K,⟨apn _,aqi _,fun _ h=>absurd h (by omega)⟩,F'⟩;rw[uk hst];rfl
  ·have hz2:0<(Bk.blk s.m (at' s k).pc 16 0).length:=by omega
   have FB:=Dz jM.nH jM.jV hz2;refine fr ⟨(at' s k).pc,(Bk.blk s.m (at' s k).pc 16 0).map Ts.ui⟩ _ _ (mn+1) FB rfl (K.put hr0 lU FB hp1) ⟨aqi _,apn _,fun _ _=>Nat.lt_succ_self _⟩ fun W G=>?_
   refine(uN (EW.of G) (by omega) hL hr0 hr1 lU jM.nH jM.jV hp1 hmm (UD W G).1 (UD W G).2).mono ?_;rintro e w' ⟨ba,bc,ca,cn,cc,rfl,C,_,E1,F'⟩;exact⟨ba,bc,ca,cn,cc,by simp,C,E1 hz2,F'⟩
end
end En
namespace En
open Mm Hh Hc Mc

section
variable {w :World} {base g gh hc :Nat} {room :Int} {M O :Value} {a :Option Addr} {n cap mb mn :Nat} {D :DataW Value} {s :Sh} {L :List Kc.Bv} {pu sl :Int}
theorem BP (E:Ew 0 w base g room M gh hc O a n cap mb mn D s L pu sl)(hL:L.length<=64)(hs0:0<=sl)(hs1:sl<=1000000){b m:Nat}{sa:Option Addr}{sc:Nat}{ss:List (Int×Int)}(OS:w.ownsRow b 175 2 (.slice sa m sc) m (rE ss))(hm:ss.length=m)(hm2:m<=1000000)(bd:∀p∈ss,0<=p.1/\0<p.2/\p.1+p.2<=4096):Calls prog 59 #[.pointer (some ⟨g,0,none⟩),.slice sa m sc] w fun e w'=>e=.returned (.tuple #[])/\(∃sl',Ev 0 w' base g room s (cK ss L) pu sl' mn/\0<=sl'/\sl'+((cK ss L).length:Int)=sl+(L.length:Int))/\Fm base w w':=by
 have HE:=kH E;have HOS:=kH OS;have HM:=kH hm;have HBD:=kH bd;have g7:=E.c7;have HL0:=kH hL;go_enter func59,ntmps59;go_wp2_with fail;go_loopw [14] (fun i wr=>∃j:Nat,j<=m/\i=.int .i64 j/\(∃a' n' cap' sl',Ew 0 wr base g room M gh hc O a' n' cap' mb mn D s (cK (ss.take j) L) pu sl'/\0<=sl'/\sl'+((cK (ss.take j) L).length:Int)=sl+(L.length:Int))/\Fm base w wr) (fun i _=>m-(intOf i).toNat)
 case atStart=>exact⟨0,apF _,rfl,⟨a,n,cap,sl,HE.out,hs0,rfl⟩,Fm.refl _ _⟩
 case round=>
  obtain⟨j,hj,rfl,⟨a',n',cap',sl',E1,s0,s1⟩,F1⟩:=hrel;have EC:=kH E1;have rY:=kH F1;have Q7:=kH s1;have hlen:(cK (ss.take j) L).length<=64:=apr (mY _ L).length_le HL0.out;have hn':=E1.bt.bs.len;have HN':=kH hn';have hsl:sl'<=1000064:=by have:=HL0.out;omega
  have hnb:n'<=64:=by omega
  have g7':=E1.c7;have hgl:=E1.bw.lt;by_cases hlt:j<m
  ·obtain⟨p,hp⟩:∃p,ss[j]?=some p:=⟨_,api (by rw[HM.out];exact hlt)⟩;obtain⟨p0,p1,p2⟩:=HBD.out p (aps hp);have HTK:Hid (cK (ss.take (j+1)) L=Kc.bJ p.1 (Wd.lo (p.1+p.2)) (cK (ss.take j) L)):=by unfold Hid;rw[je hp,DJ]
   have hlo:0<=Wd.lo (p.1+p.2)/\Wd.lo (p.1+p.2)<4294967296:=by unfold Wd.lo;omega
   have OS1:=aj HOS.out fun k o f e=>rY.out.keep k o _ f e (by decide)
   obtain⟨sb,cp,hv,_⟩:=sK OS1 (by omega);obtain rfl:sa=some ⟨sb,0,none⟩:=by injection hv
   have q0:=(OS1.cellAt _ (by omega)).trans (p8 _ _ _ hp).1;have q1:=(OS1.cellAt _ (by omega)).trans (p8 _ _ _ hp).2;have QW:Hid (∀W:World,Gr wr W->Calls prog 88 #[.agg #[.int .i64 room,.slice a' n' cap',.int .i64 pu,.int .i64 sl'],.agg #[.int .u32 p.1,.int .u32 (Wd.lo (p.1+p.2))]] W fun e w'=>∃a2 m2 c2,e=.returned (.agg #[.int .i64 room,.slice a2 m2 c2,.int .i64 pu,.int .i64 (sl'+((n':Int)-((Kc.bJ p.1 (Wd.lo (p.1+p.2)) (cK (ss.take j) L)).length:Int)))])/\(Kc.Bt 0 w' a2 m2 (Kc.bJ p.1 (Wd.lo (p.1+p.2)) (cK (ss.take j) L))/\m2<=c2)/\Gr W w'):=fun W G=>by
    have hk:=wS (ss.take j) p L;rw[HN'.out]at hk;refine(Kc.D8 cap' (EC.out.bt.of G).bs (by omega) room pu sl' ⟨p0,by omega⟩ hlo).mono ?_;rintro e w' ⟨a2,m2,c2,rfl,⟨B2,hc2⟩,G2⟩;rw[yB (by omega) (by omega)];exact⟨a2,m2,c2,rfl,⟨B2.low (apF _),hc2⟩,G2⟩
   have F8:Hid (0<=sl'+((n':Int)-((Kc.bJ p.1 (Wd.lo (p.1+p.2)) (cK (ss.take j) L)).length:Int))/\sl'+((n':Int)-((Kc.bJ p.1 (Wd.lo (p.1+p.2)) (cK (ss.take j) L)).length:Int))+((Kc.bJ p.1 (Wd.lo (p.1+p.2)) (cK (ss.take j) L)).length:Int)=sl+(L.length:Int)):=by
    have hk:=wS (ss.take j) p L;rw[HN'.out]at hk;have:=Q7.out;rw[HN'.out]at this;unfold Hid;omega
   have HSub:Hid (∀x∈Kc.bJ p.1 (Wd.lo (p.1+p.2)) (cK (ss.take j) L),_):=fun x hx=>(arz.1 hx).1
   have e4:=E1.c4;have e5:=E1.c5;have e6:=E1.c6;have HCl:Hid (∀W:World,Gr wr W->(W.cell? ⟨g,4,none⟩=some (.int .i64 room)/\W.cell? ⟨g,5,none⟩=some (.slice a' n' cap')/\W.cell? ⟨g,6,none⟩=some (.int .i64 pu)/\W.cell? ⟨g,7,none⟩=some (.int .i64 sl'))/\(W.frozen? ⟨g,4,none⟩=false/\W.frozen? ⟨g,5,none⟩=false/\W.frozen? ⟨g,6,none⟩=false/\W.frozen? ⟨g,7,none⟩=false)):=fun W G=>by
    have X:=EC.out.of G;exact⟨⟨X.c4,X.c5,X.c6,X.c7⟩,X.bw.fz _,X.bw.fz _,X.bw.fz _,X.bw.fz _⟩
   have hgn:¬wr.heap.size=g:=by omega
   generalize Kc.bJ p.1 (Wd.lo (p.1+p.2)) (cK (ss.take j) L)=L2 at *
   generalize(sl'+((n':Int)-(L2.length:Int)))=SV at *
   generalize Wd.lo (p.1+p.2)=pt at *
   generalize p.1=pf at *
   go_wp2_with fail;go_region_with (go_at_call 88;refine(QW.out _ (by repeat (first|exact Gr.refl _|refine Gr.drewN ?_ _|refine Gr.drew ?_|refine Gr.alloc ?_ _))).mono ?_;rintro e w2 ⟨a2,m2,c2,rfl,⟨B2,hc2⟩,G2⟩;have HG2:Hid (Gr wr w2):=Gr.trans (by repeat (first|exact Gr.refl wr|refine Gr.drewN ?_ _|refine Gr.drew ?_|refine Gr.alloc ?_ _)) G2;have HB2:Hid (Kc.Bt 0 w2 a2 m2 L2):=B2;obtain⟨⟨x4,x5,x6,x7⟩,y4,y5,y6,y7⟩:=HCl.out _ HG2.out;clear G2 B2)
   all_goals
    obtain⟨E3,F3⟩:=(EC.out.of HG2.out).set pu SV HB2.out hc2 HSub.out;have Q9:=kH E3;have Jj:=kH ((rY.out.trans (Fm.bD HG2.out EC.out.ay)).trans F3);try go_wp2_with fail
    go_roundw
    case rel=>exact⟨j+1,by omega,by go_num,⟨a2,m2,c2,SV,by rw[HTK.out];exact Q9.out,F8.out.1,by rw[HTK.out];exact F8.out.2⟩,Jj.out⟩
    case measure=>simp[intOf];omega
  ·have HX:Hid (cK (ss.take j) L=cK ss L):=by unfold Hid;rw[ap0 (by rw[HM.out];omega)]
   have HEv:Hid (Ev 0 wr base g room s (cK ss L) pu sl' mn):=⟨M,gh,hc,O,a',n',cap',mb,D,by rw[<-HX.out];exact EC.out⟩;have HK3:Hid (0<=sl'/\sl'+((cK ss L).length:Int)=sl+(L.length:Int)):=by have:=Q7.out;rw[HX.out]at this;exact⟨s0,this⟩
   have HFg:Hid (Calls prog 89 #[.pointer (some ⟨g,0,none⟩)] wr fun e w'=>e=.returned (.tuple #[])/\Ev 0 w' base g room s (cK ss L) pu sl' mn/\Fm base wr w'):=by
    refine(uE EC.out (by omega)).mono ?_;rintro e w' ⟨rfl,⟨D',E'⟩,F'⟩;exact⟨rfl,⟨M,gh,hc,O,a',n',cap',mb,D',by rw[<-HX.out];exact E'⟩,F'⟩
   by_cases hne:sl'=sl
   ·subst hne;go_wp2_with fail;go_end0;exact⟨rfl,⟨sl',HEv.out,HK3.out.1,HK3.out.2⟩,rY.out⟩
   ·have hne2:(sl' !=sl)=true:=by simpa using hne
    go_wp2_with fail;refine au0 HFg.out ?_;rintro e w2 ⟨rfl,E2,F2⟩;have HE2:=kH E2;have pX:=kH (rY.out.trans F2);go_wp2_with fail;go_end0;exact⟨rfl,⟨sl',HE2.out,HK3.out.1,HK3.out.2⟩,pX.out⟩
end
end En
end Go.Proofs.YtiadhbmnfjfioaaGreatDoor
