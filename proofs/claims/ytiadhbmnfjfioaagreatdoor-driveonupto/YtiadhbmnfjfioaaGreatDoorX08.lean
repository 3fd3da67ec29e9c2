/- ours -/
import Derived.Test.YtiadhbmnfjfioaaGreatDoorX07
set_option linter.unusedVariables false
set_option linter.unusedSimpArgs false
set_option maxHeartbeats 8000000
set_option maxRecDepth 100000
set_option linter.unusedSectionVars false
namespace Go.Proofs.YtiadhbmnfjfioaaGreatDoor
open Go.Proofs.Tryz hiding cs d0 d1 t1 t2 t3 t4 t5 t6 t8
open Go.ChangeShapes Go.WideShapes Go.ChangeAt Go.RowKit
variable{K:Act->World->Prop}{ops:Array Oper}{o:Array Value}{a bp v n b T op jw l m u S rd bL bT:Int}{xs:List Value}{g k base t sc:Nat}{f:Nat×Nat}{x:Obj}{sa:Option Addr}{P:Program}{E:Prop}{O:Value}{w w':World}
namespace En
variable[Inhabited Hc.bN]
open Mm Hh Hc Mc
theorem Ec (r p l:Int)(a:Option Addr)(n c:Nat):(#[.int .i64 r,.slice a n c,.int .i64 p,.int .i64 l]:Array Value).all (·.oneCell')=true:=by refine auE ?_;intro v hv;simp only[apx,apB,auw]at hv;rcases hv with rfl|rfl|rfl|rfl<;>rfl
theorem uF {o:Oper}{a:Act}{Q:Exit→Act→World→Prop}(hg:o.guard=none)(m x v:Operand)(t:TypeId)(hop:o.op=Op.mapUpdate t m x v)(k e:TypeId)(Kk:Maps.Keyed P k)(ht:P.underlying t=some (.map k e))(R:Value->Option (DataW Value×List MemPlace))(b n:Nat)(D:DataW Value)(hm:a.eval m=.map (some b))(hown:w.ownsMap P k R b n D)(hn:n<maxLen)(key val:Value)(kl:Lit)(hx:a.eval x=key)(hv:a.eval v=val)(hkey:keyOf P k key=some kl)(d:DataW Value)(ps:List MemPlace)(hval:R val=some (d,ps))(hK:∀w',w'.ownsMap P k R b (n+1) (D.put kl d)->w.grownBy w' (some b)->K (a.put o.dst undef) w'):if Region.wanted o (yielded ops a.tmps)=true then Oper.wp P o a w K Q else E:=by rw[at7 (by simp[Region.wanted,hg])];obtain⟨w',hrun,r1,r2⟩:=hown.update Kk ht hn hkey hval;unfold Oper.wp;simp[execOp,hop,hm,hx,hv,hrun,Result.andThen];exact hK w' r1 r2
section
variable{lo:Nat}{gh hc:Nat}{room:Int}{M:Value}{a:Option Addr}{n cap mb mn:Nat}{D:DataW Value}{s:Sh}{L:List Kc.Bv}{pu sl:Int}
theorem BB (E:Ew lo w base g room M gh hc O a n cap mb mn D s L pu sl)(hn:n≤140737488351232)(lU:mn≤1000000)(hb0:0≤bp)(hb1:bp<4294967296)(va:Option Addr)(vn vc:Nat)(ca:Option Addr)(cn cc:Nat)(r0 p1 l1 er:Int)(L1:List Kc.Bv)(hr:er=0→r0=room)(P:∀W:World,Gr w W->Calls prog 141 #[.agg #[.int .i64 room,.slice a n cap,.int .i64 pu,.int .i64 sl],.agg #[.int .u32 bp,.slice va vn vc]] W fun e w'=>∃a1 n1 c1,e=.returned (.tuple #[.agg #[.int .i64 r0,.slice a1 n1 c1,.int .i64 p1,.int .i64 l1],.int .i64 er])/\(Kc.Bt W.heap.size w' a1 n1 L1/\n1<=c1)/\Gr W w')(hcd:er=0->∀b∈L1,b∈L/\¬b.pc=bp\/b.pc=bp/\Ts.Ct w ca cn (Ts.aS bp b.is 0))(hl1:L1.length<=140737488351232):Calls prog 111 #[.pointer (some ⟨g,0,none⟩),.agg #[.int .u32 bp,.slice va vn vc],.slice ca cn cc] w fun e w'=>e=.returned (.tuple #[])/\(¬er=0->Gr w w')/\(er=0->Ev w.heap.size w' base g room s L1 p1 l1 (mn+1))/\Fm base w w':=by
 have HE:Hid (Ew lo w base g room M gh hc O a n cap mb mn D s L pu sl):=E;have HP:Hid (∀W:World,Gr w W->Calls prog 141 #[.agg #[.int .i64 room,.slice a n cap,.int .i64 pu,.int .i64 sl],.agg #[.int .u32 bp,.slice va vn vc]] W fun e w'=>∃a1 n1 c1,e=.returned (.tuple #[.agg #[.int .i64 r0,.slice a1 n1 c1,.int .i64 p1,.int .i64 l1],.int .i64 er])/\(Kc.Bt W.heap.size w' a1 n1 L1/\n1<=c1)/\Gr W w'):=P;have HCD:=kH hcd;have HHR:=kH hr;have CJ:=kH hl1;have HKY:=kH (acN hb0 hb1);have hgl:=E.bw.lt;have HS:Hid (∀W:World,Gr (w.alloc (.cells #[.int .u32 bp,.slice va vn vc] 64)) W->(fun W=>W.cell? ⟨g,4,none⟩=some (.int .i64 room)/\W.cell? ⟨g,5,none⟩=some (.slice a n cap)/\W.cell? ⟨g,6,none⟩=some (.int .i64 pu)/\W.cell? ⟨g,7,none⟩=some (.int .i64 sl)/\W.cell? ⟨w.heap.size,0,none⟩=some (.int .u32 bp)/\W.cell? ⟨w.heap.size,1,none⟩=some (.slice va vn vc)) W):=fun W G=>by
  have EW:=E.of (((Gr.refl w).alloc _).trans G);have e:=Kc.aX G (at5 w _);exact⟨EW.c4,EW.c5,EW.c6,EW.c7,atZ _ _ _ _ _ _ e,atZ _ _ _ _ _ _ e⟩
 clear E P hcd hr hb0 hb1 hl1;go_enter func111,ntmps111;go_wp2_with fail;generalize hw0:w.alloc (.cells #[.int .u32 bp,.slice va vn vc] 64)=w0 at *
 have HW0:=kH hw0;have oJ:Hid (Gr w w0):=by rw[<-hw0];exact(Gr.refl w).alloc _
 clear hw0;apply Kc.share
 ·intro jO;refine aut (S:=fun W=>W.cell? ⟨g,4,none⟩=some (.int .i64 room)/\W.cell? ⟨g,5,none⟩=some (.slice a n cap)/\W.cell? ⟨g,6,none⟩=some (.int .i64 pu)/\W.cell? ⟨g,7,none⟩=some (.int .i64 sl)/\W.cell? ⟨w.heap.size,0,none⟩=some (.int .u32 bp)/\W.cell? ⟨w.heap.size,1,none⟩=some (.slice va vn vc)) al ?_ (fun hHeld=>?_)
  ·exact HS _ (Gr.refl _).drew
  have aY:=kH hHeld;clear hHeld;refine tK 0 (.pointer (some ⟨g,0,none⟩)) aY ?_;refine tK 1 (.pointer (some ⟨g,0,none⟩)) aY ?_;refine tK 2 (.pointer (some ⟨g,4,none⟩)) aY ?_;refine tK 3 (.agg #[.int .i64 room,.slice a n cap,.int .i64 pu,.int .i64 sl]) aY ?_;refine tK 4 (.agg #[.int .u32 bp,.slice va vn vc]) aY ?_;refine aue (rs:=[5,9]) al aq ?_;refine aua rfl (fun K hK=>?cf) (aua rfl (fun K hK=>?af) aud)
  case cf=>
   go_simp;refine(HP _ (oJ.drew)).mono ?_;rintro e wd ⟨a1,n1,c1,rfl,⟨B1,hc1⟩,Gd⟩;have HB1:=kH (B1.low (by first|exact oJ.size|exact(oJ.alloc _).size));have gp:Hid (Gr w0 wd):=(Gr.refl _).drew.trans Gd;clear Gd B1;have fO:Hid _:=HS _ gp;refine hK.out _ _ fO (fun hx=>?_);clear hK K hx;refine tK 6 (.tuple #[.agg #[.int .i64 r0,.slice a1 n1 c1,.int .i64 p1,.int .i64 l1],.int .i64 er]) fO ?_;refine tK 7 (.agg #[.int .i64 r0,.slice a1 n1 c1,.int .i64 p1,.int .i64 l1]) fO ?_;refine tK 8 (.int .i64 er) fO ?_;refine aue (rs:=[9]) al aq ?_;refine aua rfl (fun K hK=>?_) aud;go_simp;refine hK.out _ _ (HS _ (gp.alloc _)) (fun hx=>?_);clear hK K hx;refine bu (i:=10) al rfl rfl 54 (.tmp 6) (.tmp 15) rfl wd.heap.size #[.int .i64 r0,.slice a1 n1 c1,.int .i64 p1,.int .i64 l1] aw aw 54 _ (at5 wd _) Kc.wF rfl (Ec _ _ _ _ _ _) ?_ ?_
   ·exact HS _ (ag (gp.alloc _) gp.size _)
   refine tK 11 (.int .i64 er) (HS _ (ag (gp.alloc _) gp.size _)) ?_;refine auy al ?_ _;refine aT (fun W=>W.heap[wd.heap.size]?=some (.cells #[.int .i64 r0,.slice a1 n1 c1,.int .i64 p1,.int .i64 l1] 54 (0,0))/\Kc.Bt w.heap.size W a1 n1 L1/\Gr w0 W) ⟨aup _ _ _ _ _ (0,0) (at5 wd _),HB1.of (ag br (apn _) _),ag (gp.alloc _) gp.size _⟩ ?_;obtain⟨o,ho⟩:∃o:Nat,o=wd.heap.size:=⟨_,rfl⟩;rw[<-ho];clear ho HB1 fO gp aY;clear wd
   revert o hc1
   revert a1 n1 c1
   exact jO.out
  case af=>
   go_simp;refine hK.out _ _ (HS _ br.drew) (fun hx=>?_);clear hK K hx;refine aue (rs:=[5]) al aq ?_;refine aua rfl (fun K hK=>?_) aud;go_simp;refine(HP _ ((oJ.alloc _).drew)).mono ?_;rintro e wd ⟨a1,n1,c1,rfl,⟨B1,hc1⟩,Gd⟩;have HB1:=kH (B1.low (by first|exact oJ.size|exact(oJ.alloc _).size));have sM:=kH (Kc.aX Gd (Kc.aX (Gr.refl _).drew (at5 w0 _)));have gp:=kH (Gr.trans (Gr.drew ((Gr.refl w0).alloc _)) Gd);clear Gd B1;have fO:Hid _:=HS _ gp;refine hK.out _ _ fO (fun hx=>?_);clear hK K hx;refine tK 6 (.tuple #[.agg #[.int .i64 r0,.slice a1 n1 c1,.int .i64 p1,.int .i64 l1],.int .i64 er]) fO ?_;refine tK 7 (.agg #[.int .i64 r0,.slice a1 n1 c1,.int .i64 p1,.int .i64 l1]) fO ?_;refine tK 8 (.int .i64 er) fO ?_;refine bu (i:=10) al rfl rfl 54 (.tmp 6) (.tmp 15) rfl w0.heap.size #[.int .i64 r0,.slice a1 n1 c1,.int .i64 p1,.int .i64 l1] aw aw 54 _ sM Kc.wF rfl (Ec _ _ _ _ _ _) ?_ ?_
   ·exact HS _ (ag gp (apn _) _)
   refine tK 11 (.int .i64 er) (HS _ (ag gp (apn _) _)) ?_;refine auy al ?_ _;refine aT (fun W=>W.heap[w0.heap.size]?=some (.cells #[.int .i64 r0,.slice a1 n1 c1,.int .i64 p1,.int .i64 l1] 54 (0,0))/\Kc.Bt w.heap.size W a1 n1 L1/\Gr w0 W) ⟨aup _ _ _ _ _ (0,0) sM,HB1.to fun k q t f _ ht hk=>auo _ _ _ _ (aa hk sM (by rcases ht with rfl|rfl<;>decide)),ag gp (apn _) _⟩ ?_;obtain⟨o,ho⟩:∃o:Nat,o=w0.heap.size:=⟨_,rfl⟩;rw[<-ho];clear ho HB1 fO gp aY sM;clear wd
   revert o hc1
   revert a1 n1 c1
   exact jO.out
 ·intro a1 n1 c1 hc1 o W ⟨K0,B1,GW⟩;have HBt:=kH B1;have zT:=kH (oJ.trans GW);have HBl:=kH (Kc.aX GW (by rw[<-HW0.out];exact at5 w _));have k0:W.cell? ⟨o,0,none⟩=some (.int .i64 r0):=atZ _ _ _ _ _ _ K0;have k1:W.cell? ⟨o,1,none⟩=some (.slice a1 n1 c1):=atZ _ _ _ _ _ _ K0;have k2:W.cell? ⟨o,2,none⟩=some (.int .i64 p1):=atZ _ _ _ _ _ _ K0;have k3:W.cell? ⟨o,3,none⟩=some (.int .i64 l1):=atZ _ _ _ _ _ _ K0;clear B1 GW HS HP HW0 oJ K0;clear w0;by_cases her:er=0
  ·have hrr:=HHR her;subst her;subst hrr;have EW:Ew lo W base g r0 M gh hc O a n cap mb mn D s L pu sl:=HE.of zT;have HEW:Hid (Ew lo W base g r0 M gh hc O a n cap mb mn D s L pu sl):=EW;obtain⟨m1,m2,m3⟩:=EW.mid r0 a1 n1 c1 p1 l1;have HM1:Hid (Bw 94 (rsE r0 a1 n1 c1 p1 l1 mb) (si W g r0 a1 n1 c1 p1 l1) base g M gh hc O s):=m1;have Jr:Hid (Fm base W (si W g r0 a1 n1 c1 p1 l1)):=m2;have HM3:Hid ((si W g r0 a1 n1 c1 p1 l1).ownsMap prog 37 Rh mb mn D):=m3;have g4:=EW.c4;have g5:=EW.c5;have g6:=EW.c6;have g7:=EW.c7;have f4:W.frozen? ⟨g,4,none⟩=false:=EW.bw.fz 4;have f5:W.frozen? ⟨g,5,none⟩=false:=EW.bw.fz 5;have f6:W.frozen? ⟨g,6,none⟩=false:=EW.bw.fz 6;have f7:W.frozen? ⟨g,7,none⟩=false:=EW.bw.fz 7;clear EW m1 m2 m3 HE HHR;go_wp2_with fail;refine aT (fun V=>V=si W g r0 a1 n1 c1 p1 l1) rfl ?_;intro V hV;rw[<-hV]at HM1 Jr HM3;have HV:Hid (V=si W g r0 a1 n1 c1 p1 l1):=hV;have CK:Hid (V.cell? ⟨g,8,none⟩=some (.map (some mb))/\V.cell? ⟨w.heap.size,0,none⟩=some (.int .u32 bp)):=⟨HM1.rest 4,atZ _ _ _ _ _ _ (Jr.row HBl an)⟩;clear hV g4 g5 g6 g7 f4 f5 f6 f7 k0 k1 k2 k3;refine aut (S:=fun W=>W.cell? ⟨g,8,none⟩=some (.map (some mb))/\W.cell? ⟨w.heap.size,0,none⟩=some (.int .u32 bp)) al ?_ (fun hHeld=>?_)
   ·exact CK
   have aY:Hid _:=hHeld;clear hHeld;refine tK 0 (.pointer (some ⟨g,0,none⟩)) aY ?_;refine tK 1 (.pointer (some ⟨g,0,none⟩)) aY ?_;refine tK 2 (.pointer (some ⟨g,8,none⟩)) aY ?_;refine tK 3 (.map (some mb)) aY ?_;refine tK 4 (.pointer (some ⟨w.heap.size,0,none⟩)) aY ?_;refine tK 5 (.int .u32 bp) aY ?_;refine tK 6 (.slice ca cn cc) aY ?_;refine aue (rs:=[7]) al aq ?_;refine aua rfl (fun K hK=>uF rfl (.tmp 26) (.tmp 28) (.tmp 29) 92 rfl 37 177 kU underlying92 Rh mb mn D aw HM3.drew bj (.int .u32 bp) (.slice ca cn cc) (.int .u32 bp) aw aw HKY (.held (.slice ca cn cc)) [] rfl (fun w5 h5 q5=>hK.out _ _ ?_ (fun hx=>?_))) aud
   ·have st:=yJ HM3.drew q5;exact⟨(aui (st _ _ _ _ HM1.out.blk)).trans CK.out.1,(aui (st _ _ _ _ (Jr.out.row HBl.out an))).trans CK.out.2⟩
   clear hK K hx;refine auy al ?_ _;have HQ:=HEW.put HBt hc1 (W:=w5) (kZ:=p1) (sl':=l1) (by rw[<-HV.out];exact⟨q5.os,q5.tape,q5.output,q5.size,q5.block⟩) h5 (fun b hb=>by
    rcases HCD (by trivial) b hb with⟨hb1,hb2⟩|⟨hb1,hb2⟩
    ·obtain⟨xa,xn,xc,h1,h2⟩:=HEW.code b hb1;exact⟨xa,xn,xc,fun z=>(Maps.atKey_put_other (fun e=>hb2 (by injection e)) _ z).trans (h1 z),h2⟩
    ·refine⟨ca,cn,cc,fun z=>?_,?_⟩
     ·rw[hb1];exact Maps.atKey_put_same HM3.isMap (kU.key HKY) _ z
     ·rw[hb1];exact hb2.of zT)
   have KV:Hid (Fm base w w5):=(Fm.bD zT (apr HEW.bw.bg (by have:=hgl;omega))).trans HQ.2;have hn1:n1<=140737488351232:=by rw[<-HBt.out.bs.len];exact CJ
   have HFg:Hid (Calls prog 89 #[.pointer (some ⟨g,0,none⟩)] w5 fun e w'=>e=.returned (.tuple #[])/\(∃D',Ew w.heap.size w' base g r0 M gh hc O a1 n1 c1 mb (mn+1) D' s L1 p1 l1)/\Fm base w5 w'):=uE HQ.1 hn1;clear HQ h5 q5 HM1 Jr HM3 CK aY HV HEW HBt HBl zT HCD hn1 CJ;clear V W;go_wp2_with fail;refine au0 HFg ?_;rintro e w6 ⟨rfl,⟨D6,E6⟩,F6⟩;have HE6:Hid (Ev w.heap.size w6 base g r0 s L1 p1 l1 (mn+1)):=⟨M,gh,hc,O,a1,n1,c1,mb,D6,E6⟩;have HF6:Hid (Fm base w w6):=KV.trans F6;clear HFg E6 F6 KV;go_wp2_with fail;go_end0;exact⟨rfl,HE6,HF6⟩
  ·have alk:(er !=0)=true:=by simpa using her
   have HER:Hid (¬er=0):=her;clear her k0 k1 k2 k3 HBt HBl HCD HHR;go_wp2_with fail;refine auc (auV results111 _ _ _) rfl ?_;exact⟨rfl,fun _=>zT,fun h=>absurd h HER,Fm.bD zT HE.ay⟩
end
end En
namespace Ts
variable[Inhabited Hc.bN]
open Mm Hc Mi Bk
open Hh hiding Rn
theorem Sr.at_ (hg:g=w.heap.size)(cs:Array Value)(t n c:Nat)(h:cs.size=n*5):Sr (w.alloc (.cells cs t)) (.slice (some ⟨g,0,none⟩) n c) n 5 cs.toList:=by subst hg;exact Sr.new w cs t n c h
theorem Sr.drew {vx:Value}{m sz:Nat}{news:List Value}(h:Sr w vx m sz news):Sr w.drew vx m sz news:=h.gr ((Gr.refl _).drewN 1)
theorem agV:(prog.info? 235).map (·.size)=some 5:=al
theorem rM (n a b :Int) (w :World) :Calls prog 167 #[.int .i64 n, .int .i64 a, .int .i64 b] w fun e w' => e = .returned (.bool (decide (a <= n /\ n <= b))) /\ w' =w :=by
  go_enter func167, ntmps167;go_wp2
  all_goals
    go_ret;refine⟨Dw.aM ?_, rfl⟩
    first
      | (rename_i h; have h2 : ¬ a ≤ n := by omega
         simp[h2]; done)
      |(rename_i h; simp[h]; done)
theorem eG (h:a<=n/\n<=b)(w:World):Calls prog 167 #[.int .i64 n,.int .i64 a,.int .i64 b] w fun e w'=>e=.returned (.bool true)/\w'=w:=by have:=rM n a b w;rwa[auq h]at this
theorem aA (h:¬(a<=n/\n<=b))(w:World):Calls prog 167 #[.int .i64 n,.int .i64 a,.int .i64 b] w fun e w'=>e=.returned (.bool false)/\w'=w:=by have:=rM n a b w;rwa[auh h]at this
theorem dm (v:Value)(w:World):Calls prog 164 #[v] w fun e w'=>e=.returned v/\w'=w:=by go_enter func164,ntmps164;go_wp2;go_ret;exact⟨rfl,rfl⟩
theorem Gg (r x:Int)(w:World):Calls prog 165 #[.int .i64 r,.int .u32 x] w fun e w'=>e=.returned (.agg #[.int .i64 2,.int .i64 r,.int .i64 0,.int .i64 0,.int .u32 x])/\w'=w.alloc (.cells #[.int .i64 2,.int .i64 r,.int .i64 0,.int .i64 0,.int .u32 x] 235):=by go_enter func165,ntmps165;go_wp2;exact auc (v:=.agg #[.int .i64 2,.int .i64 r,.int .i64 0,.int .i64 0,.int .u32 x]) (auD results165 _ _ _ _ _ (0,0) _ rfl (at5 w _) underlying235 rfl agV) rfl ⟨rfl,rfl⟩
theorem l9 (r x:Int)(w:World):Calls prog 165 #[.int .i64 r,.int .u32 x] w fun e w'=>e=.returned (.agg #[.int .i64 2,.int .i64 r,.int .i64 0,.int .i64 0,.int .u32 x])/\Gr w w':=(Gg r x w).mono fun e w' ⟨h1,h2⟩=>⟨h1,by rw[h2];exact(Gr.refl _).alloc _⟩
end Ts
namespace Ts
variable[Inhabited Hc.bN]
open Mm Hc Mi Bk
open Hh hiding Rn
theorem NL (op rd r1 r2 im a:Int)(w:World):Calls prog 166 #[.agg #[.int .i64 op,.int .i64 rd,.int .i64 r1,.int .i64 r2,.int .i32 im],.int .u32 a] w fun e w'=>∃v,e=.returned v/\Sr w' v 3 5 [.int .i64 528,.int .i64 32,.int .i64 r1,.int .i64 0,.int .u32 (Wd.lo im),.int .i64 2,.int .i64 rd,.int .i64 0,.int .i64 0,.int .u32 (Wd.lo (a+4)),.int .i64 4,.int .i64 0,.int .i64 32,.int .i64 0,.int .u32 0]/\Gr w w':=by
 go_enter func166,ntmps166;go_wp2_with fail
 go_region_with (first
  |(go_at_call 165;refine(Gg _ _ _).mono ?_;rintro e w1 ⟨rfl,rfl⟩)
  |(go_at_call 164;refine(dm _ _).mono ?_;rintro e w1 ⟨rfl,rfl⟩))
 all_goals
  go_wp2_with fail;go_ret;refine⟨_,rfl,?_,?_⟩
  ·repeat (refine Sr.drew ?_)
   exact Sr.at_ aq #[.int .i64 528,.int .i64 32,.int .i64 r1,.int .i64 0,.int .u32 (IntKind.u32.wrap im),.int .i64 2,.int .i64 rd,.int .i64 0,.int .i64 0,.int .u32 (IntKind.u32.wrap (a+4)),.int .i64 4,.int .i64 0,.int .i64 32,.int .i64 0,.int .u32 0] 235 3 3 rfl
  ·repeat (first|exact Gr.refl _|refine Gr.drewN ?_ _|refine Gr.drew ?_|refine Gr.alloc ?_ _)
end Ts
namespace Ts
variable[Inhabited Hc.bN]
open Mm Hc Mi Bk
open Hh hiding Rn
def kR:List Int:=[0,0,0,0,0,0,0,0,0,0,0,0,0,0,0,0,0,0,0,528,531,532,533,536,537,530,534,535]
def Tq (w:World):Prop:=∀k n,kR[k]?=some n->w.cell? ⟨6,k,none⟩=some (.int .i64 n)
theorem Tq.of (h:Tq w)(g:Gr w w'):Tq w':=fun k n e=>(g.cell _ (by exact Dw.lt_of_cell (h k n e))).trans (h k n e)
def iD (op rd r1 r2 im a:Int) (n:Nat) (cs:List Value):Prop:=∀w:World,Tq w->Calls prog 140 #[.agg #[.int .i64 op,.int .i64 rd,.int .i64 r1,.int .i64 r2,.int .i32 im],.int .u32 a] w fun e w'=>∃v,e=.returned v/\Sr w' v n 5 cs/\Gr w w'
theorem Ee (a im:Int):Wd.lo (a+Wd.lo im)=(a+im)%4294967296:=by unfold Wd.lo;omega
section
variable{r1 r2 im:Int}
theorem Zk:iD 1 rd r1 r2 im a 1 [.int .i64 2,.int .i64 rd,.int .i64 0,.int .i64 0,.int .u32 (Wd.lo im)]:=fun w T=>by
 go_enter func140,ntmps140;go_wp2_with fail;refine(l9 _ _ _).mono ?_;rintro e w8 ⟨rfl,G1⟩;go_wp2_with fail;refine(dm _ _).mono ?_;rintro e w9 ⟨rfl,rfl⟩;go_wp2_with fail;go_ret;refine⟨_,rfl,?_,?_⟩
 ·exact Sr.at_ aq _ _ _ _ rfl
 ·exact Gr.alloc (br.trans G1) _
theorem Zl:iD 2 rd r1 r2 im a 1 [.int .i64 2,.int .i64 rd,.int .i64 0,.int .i64 0,.int .u32 (Wd.lo (a+Wd.lo im))]:=fun w T=>by
 go_enter func140,ntmps140;go_wp2_with fail;refine(l9 _ _ _).mono ?_;rintro e w8 ⟨rfl,G1⟩;go_wp2_with fail;refine(dm _ _).mono ?_;rintro e w9 ⟨rfl,rfl⟩;go_wp2_with fail;go_ret;refine⟨_,rfl,?_,?_⟩
 ·rw[Ee];exact Sr.at_ aq _ _ _ _ rfl
 ·exact Gr.alloc (br.trans G1) _
theorem Zm:iD 3 rd r1 r2 im a 2 [.int .i64 2,.int .i64 rd,.int .i64 0,.int .i64 0,.int .u32 (Wd.lo (a+4)),.int .i64 3,.int .i64 0,.int .i64 0,.int .i64 0,.int .u32 (Wd.lo (a+Wd.lo im))]:=fun w T=>by
 go_enter func140,ntmps140;go_wp2_with fail;refine(l9 _ _ _).mono ?_;rintro e w8 ⟨rfl,G1⟩;go_wp2_with fail;refine(dm _ _).mono ?_;rintro e w9 ⟨rfl,rfl⟩;go_wp2_with fail;go_ret;refine⟨_,rfl,?_,?_⟩
 ·rw[Ee];exact Sr.at_ aq _ _ _ _ rfl
 ·exact Gr.alloc (br.trans G1) _
theorem Zn:iD 4 rd r1 r2 im a 3 [.int .i64 528,.int .i64 32,.int .i64 r1,.int .i64 0,.int .u32 (Wd.lo im),.int .i64 2,.int .i64 rd,.int .i64 0,.int .i64 0,.int .u32 (Wd.lo (a+4)),.int .i64 4,.int .i64 0,.int .i64 32,.int .i64 0,.int .u32 0]:=fun w T=>by go_enter func140,ntmps140;go_wp2_with fail;refine(NL _ _ _ _ _ _ _).mono ?_;rintro e w8 ⟨v,rfl,S1,G1⟩;go_wp2_with fail;go_ret;exact⟨_,rfl,S1,br.trans G1⟩
theorem Zo (ho:5<=op/\op<=10):iD op rd r1 r2 im a 1 [.int .i64 (100+op),.int .i64 0,.int .i64 r1,.int .i64 r2,.int .u32 (Wd.lo (a+Wd.lo im))]:=fun w T=>by
 have b1:(op ==1)=false:=by simp;omega
 have b2:(op ==2)=false:=by simp;omega
 have b3:(op ==3)=false:=by simp;omega
 have b4:(op ==4)=false:=by simp;omega
 have b19:(op ==19)=false:=by simp;omega
 go_enter func140,ntmps140;go_wp2_with fail;refine(eG ab _).mono ?_;rintro e w0 ⟨rfl,rfl⟩;go_wp2_with fail;refine(dm _ _).mono ?_;rintro e w9 ⟨rfl,rfl⟩;go_wp2_with fail;go_ret;refine⟨_,rfl,?_,?_⟩
 ·rw[Ee];exact Sr.at_ aq _ _ _ _ rfl
 ·exact Gr.alloc br _
theorem TP (ho:11<=op/\op<=15):iD op rd r1 r2 im a 1 [.int .i64 (200+op),.int .i64 rd,.int .i64 r1,.int .i64 0,.int .u32 (Wd.lo im)]:=fun w T=>by
 have b1:(op ==1)=false:=by simp;omega
 have b2:(op ==2)=false:=by simp;omega
 have b3:(op ==3)=false:=by simp;omega
 have b4:(op ==4)=false:=by simp;omega
 have b19:(op ==19)=false:=by simp;omega
 go_enter func140,ntmps140;go_wp2_with fail;refine(aA ab _).mono ?_;rintro e w0 ⟨rfl,rfl⟩;go_wp2_with fail;refine(eG ab _).mono ?_;rintro e w1 ⟨rfl,rfl⟩;go_wp2_with fail;refine(dm _ _).mono ?_;rintro e w9 ⟨rfl,rfl⟩;go_wp2_with fail;go_ret;refine⟨_,rfl,?_,?_⟩
 ·exact Sr.at_ aq _ _ _ _ rfl
 ·exact Gr.alloc br _
theorem TQ (ho:16<=op/\op<=18):iD op rd r1 r2 im a 1 [.int .i64 (300+op),.int .i64 0,.int .i64 r1,.int .i64 r2,.int .u32 (Wd.lo im)]:=fun w T=>by
 have b1:(op ==1)=false:=by simp;omega
 have b2:(op ==2)=false:=by simp;omega
 have b3:(op ==3)=false:=by simp;omega
 have b4:(op ==4)=false:=by simp;omega
 have b19:(op ==19)=false:=by simp;omega
 go_enter func140,ntmps140;go_wp2_with fail;refine(aA ab _).mono ?_;rintro e w0 ⟨rfl,rfl⟩;go_wp2_with fail;refine(aA ab _).mono ?_;rintro e w1 ⟨rfl,rfl⟩;go_wp2_with fail;refine(eG ab _).mono ?_;rintro e w2 ⟨rfl,rfl⟩;go_wp2_with fail;refine(dm _ _).mono ?_;rintro e w9 ⟨rfl,rfl⟩;go_wp2_with fail;go_ret;refine⟨_,rfl,?_,?_⟩
 ·exact Sr.at_ aq _ _ _ _ rfl
 ·exact Gr.alloc br _
theorem TR (ho:28<=op/\op<=45):iD op rd r1 r2 im a 1 [.int .i64 (400+op),.int .i64 rd,.int .i64 r1,.int .i64 r2,.int .u32 0]:=fun w T=>by
 have b1:(op ==1)=false:=by simp;omega
 have b2:(op ==2)=false:=by simp;omega
 have b3:(op ==3)=false:=by simp;omega
 have b4:(op ==4)=false:=by simp;omega
 have b19:(op ==19)=false:=by simp;omega
 go_enter func140,ntmps140;go_wp2_with fail;refine(aA ab _).mono ?_;rintro e w0 ⟨rfl,rfl⟩;go_wp2_with fail;refine(aA ab _).mono ?_;rintro e w1 ⟨rfl,rfl⟩;go_wp2_with fail;refine(aA ab _).mono ?_;rintro e w2 ⟨rfl,rfl⟩;go_wp2_with fail;refine(aA ab _).mono ?_;rintro e w3 ⟨rfl,rfl⟩;go_wp2_with fail;refine(eG ab _).mono ?_;rintro e w4 ⟨rfl,rfl⟩;go_wp2_with fail;refine(dm _ _).mono ?_;rintro e w9 ⟨rfl,rfl⟩;go_wp2_with fail;go_ret;refine⟨_,rfl,?_,?_⟩
 ·exact Sr.at_ aq _ _ _ _ rfl
 ·exact Gr.alloc br _
theorem TS (ho:46<=op/\op<=56):iD op rd r1 r2 im a 1 [.int .i64 (600+op),.int .i64 rd,.int .i64 r1,.int .i64 r2,.int .u32 0]:=fun w T=>by
 have b1:(op ==1)=false:=by simp;omega
 have b2:(op ==2)=false:=by simp;omega
 have b3:(op ==3)=false:=by simp;omega
 have b4:(op ==4)=false:=by simp;omega
 have b19:(op ==19)=false:=by simp;omega
 go_enter func140,ntmps140;go_wp2_with fail;refine(aA ab _).mono ?_;rintro e w0 ⟨rfl,rfl⟩;go_wp2_with fail;refine(aA ab _).mono ?_;rintro e w1 ⟨rfl,rfl⟩;go_wp2_with fail;refine(aA ab _).mono ?_;rintro e w2 ⟨rfl,rfl⟩;go_wp2_with fail;refine(aA ab _).mono ?_;rintro e w3 ⟨rfl,rfl⟩;go_wp2_with fail;refine(aA ab _).mono ?_;rintro e w4 ⟨rfl,rfl⟩;go_wp2_with fail;refine(eG ab _).mono ?_;rintro e w5 ⟨rfl,rfl⟩;go_wp2_with fail;refine(dm _ _).mono ?_;rintro e w9 ⟨rfl,rfl⟩;go_wp2_with fail;go_ret;refine⟨_,rfl,?_,?_⟩
 ·exact Sr.at_ aq _ _ _ _ rfl
 ·exact Gr.alloc br _
theorem NM:iD 19 rd 0 r2 im a 1 [.int .i64 2,.int .i64 rd,.int .i64 0,.int .i64 0,.int .u32 (Wd.lo im)]:=fun w T=>by
 go_enter func140,ntmps140;go_wp2_with fail;refine(aA ab _).mono ?_;rintro e w0 ⟨rfl,rfl⟩;go_wp2_with fail;refine(aA ab _).mono ?_;rintro e w1 ⟨rfl,rfl⟩;go_wp2_with fail;refine(aA ab _).mono ?_;rintro e w2 ⟨rfl,rfl⟩;go_wp2_with fail;refine(l9 _ _ _).mono ?_;rintro e w8 ⟨rfl,G1⟩;go_wp2_with fail;refine(dm _ _).mono ?_;rintro e w9 ⟨rfl,rfl⟩;go_wp2_with fail;go_ret;refine⟨_,rfl,?_,?_⟩
 ·exact Sr.at_ aq _ _ _ _ rfl
 ·exact Gr.alloc (br.trans G1) _
theorem NN (hz:(r1 ==0)=false):iD 19 0 r1 r2 im a 1 [.int .i64 2,.int .i64 0,.int .i64 0,.int .i64 0,.int .u32 (Wd.lo im)]:=fun w T=>by
 go_enter func140,ntmps140;go_wp2_with fail;refine(aA ab _).mono ?_;rintro e w0 ⟨rfl,rfl⟩;go_wp2_with fail;refine(aA ab _).mono ?_;rintro e w1 ⟨rfl,rfl⟩;go_wp2_with fail;refine(aA ab _).mono ?_;rintro e w2 ⟨rfl,rfl⟩;go_wp2_with fail;refine(l9 _ _ _).mono ?_;rintro e w8 ⟨rfl,G1⟩;go_wp2_with fail;refine(dm _ _).mono ?_;rintro e w9 ⟨rfl,rfl⟩;go_wp2_with fail;go_ret;refine⟨_,rfl,?_,?_⟩
 ·exact Sr.at_ aq _ _ _ _ rfl
 ·exact Gr.alloc (br.trans G1) _
theorem NP (hz:(r1 ==0)=false)(hy:(rd ==0)=false):iD 19 rd r1 r2 im a 1 [.int .i64 528,.int .i64 rd,.int .i64 r1,.int .i64 0,.int .u32 (Wd.lo im)]:=fun w T=>by
 have HT:Hid (∀W:World,Gr w W->W.cell? ⟨6,19,none⟩=some (.int .i64 528)):=fun W G=>(T.of G) 19 _ rfl
 have hq:(w.alloc (.cells #[.int .i64 19,.int .i64 rd,.int .i64 r1,.int .i64 r2,.int .i32 im] 59)).cell? ⟨6,19,none⟩=some (.int .i64 528):=HT _ br;go_enter func140,ntmps140;go_wp2_with fail;refine(aA ab _).mono ?_;rintro e w0 ⟨rfl,rfl⟩;go_wp2_with fail;refine(aA ab _).mono ?_;rintro e w1 ⟨rfl,rfl⟩;go_wp2_with fail;refine(aA ab _).mono ?_;rintro e w2 ⟨rfl,rfl⟩;go_wp2_with fail;refine(eG ab _).mono ?_;rintro e w3 ⟨rfl,rfl⟩;go_wp2_with fail;go_region_held3 (fun W=>W.cell? ⟨w.heap.size,0,none⟩=some (.int .i64 19)/\W.cell? ⟨w.heap.size,1,none⟩=some (.int .i64 rd)/\W.cell? ⟨w.heap.size,2,none⟩=some (.int .i64 r1)/\W.cell? ⟨6,19,none⟩=some (.int .i64 528)) (first|(go_keep;done)|(refine⟨?_,?_,?_,?_⟩<;>first|assumption|(simp;done))) ((go_at_call 164;refine(dm _ _).mono ?_;rintro e w9 ⟨rfl,rfl⟩));go_wp2_with fail;go_ret;refine⟨_,rfl,?_,?_⟩
 ·repeat (refine Sr.drew ?_)
  exact Sr.at_ aq _ _ _ _ rfl
 ·repeat (first|exact Gr.refl _|refine Gr.drewN ?_ _|refine Gr.drew ?_|refine Gr.alloc ?_ _)
theorem mf {k:Nat}(h1:20<=k)(h2:k<=27)(hv:kR[k]?=some v):iD (k:Int) rd r1 r2 im a 1 [.int .i64 v,.int .i64 rd,.int .i64 r1,.int .i64 0,.int .u32 (Wd.lo im)]:=fun w T=>by
 have c0:(0:Int)<=(k:Int):=ab;have c1:(k:Int)<28:=ab;have b1:((k:Int) ==1)=false:=by simp;omega
 have b2:((k:Int) ==2)=false:=by simp;omega
 have b3:((k:Int) ==3)=false:=by simp;omega
 have b4:((k:Int) ==4)=false:=by simp;omega
 have b19:((k:Int) ==19)=false:=by simp;omega
 have HT:Hid (∀W:World,Gr w W->W.cell? ⟨6,k,none⟩=some (.int .i64 v)):=fun W G=>(T.of G) k _ hv
 have hq:(w.alloc (.cells #[.int .i64 (k:Int),.int .i64 rd,.int .i64 r1,.int .i64 r2,.int .i32 im] 59)).cell? ⟨6,k,none⟩=some (.int .i64 v):=HT _ br;go_enter func140,ntmps140;go_wp2_with fail;refine(aA ab _).mono ?_;rintro e w0 ⟨rfl,rfl⟩;go_wp2_with fail;refine(aA ab _).mono ?_;rintro e w1 ⟨rfl,rfl⟩;go_wp2_with fail;refine(aA ab _).mono ?_;rintro e w2 ⟨rfl,rfl⟩;go_wp2_with fail;refine(eG ab _).mono ?_;rintro e w3 ⟨rfl,rfl⟩;go_wp2_with fail;go_region_held3 (fun W=>W.cell? ⟨w.heap.size,0,none⟩=some (.int .i64 (k:Int))/\W.cell? ⟨w.heap.size,1,none⟩=some (.int .i64 rd)/\W.cell? ⟨w.heap.size,2,none⟩=some (.int .i64 r1)/\W.cell? ⟨6,k,none⟩=some (.int .i64 v)) (first|(go_keep;done)|(refine⟨?_,?_,?_,?_⟩<;>first|assumption|(simp;done))) ((go_at_call 164;refine(dm _ _).mono ?_;rintro e w9 ⟨rfl,rfl⟩));go_wp2_with fail;go_ret;refine⟨_,rfl,?_,?_⟩
 ·repeat (refine Sr.drew ?_)
  exact Sr.at_ aq _ _ _ _ rfl
 ·repeat (first|exact Gr.refl _|refine Gr.drewN ?_ _|refine Gr.drew ?_|refine Gr.alloc ?_ _)
theorem TU:iD 58 rd r1 r2 im a 1 [.int .i64 5,.int .i64 0,.int .i64 0,.int .i64 0,.int .u32 0]:=fun w T=>by
 go_enter func140,ntmps140;go_wp2_with fail;refine(aA ab _).mono ?_;rintro e w0 ⟨rfl,rfl⟩;go_wp2_with fail;refine(aA ab _).mono ?_;rintro e w1 ⟨rfl,rfl⟩;go_wp2_with fail;refine(aA ab _).mono ?_;rintro e w2 ⟨rfl,rfl⟩;go_wp2_with fail;refine(aA ab _).mono ?_;rintro e w3 ⟨rfl,rfl⟩;go_wp2_with fail;refine(aA ab _).mono ?_;rintro e w4 ⟨rfl,rfl⟩;go_wp2_with fail;refine(aA ab _).mono ?_;rintro e w5 ⟨rfl,rfl⟩;go_wp2_with fail;refine(dm _ _).mono ?_;rintro e w9 ⟨rfl,rfl⟩;go_wp2_with fail;go_ret;refine⟨_,rfl,?_,?_⟩
 ·exact Sr.at_ aq _ _ _ _ rfl
 ·exact Gr.alloc br _
theorem TV:iD 59 rd r1 r2 im a 1 [.int .i64 6,.int .i64 0,.int .i64 0,.int .i64 0,.int .u32 0]:=fun w T=>by
 go_enter func140,ntmps140;go_wp2_with fail;refine(aA ab _).mono ?_;rintro e w0 ⟨rfl,rfl⟩;go_wp2_with fail;refine(aA ab _).mono ?_;rintro e w1 ⟨rfl,rfl⟩;go_wp2_with fail;refine(aA ab _).mono ?_;rintro e w2 ⟨rfl,rfl⟩;go_wp2_with fail;refine(aA ab _).mono ?_;rintro e w3 ⟨rfl,rfl⟩;go_wp2_with fail;refine(aA ab _).mono ?_;rintro e w4 ⟨rfl,rfl⟩;go_wp2_with fail;refine(aA ab _).mono ?_;rintro e w5 ⟨rfl,rfl⟩;go_wp2_with fail;refine(dm _ _).mono ?_;rintro e w9 ⟨rfl,rfl⟩;go_wp2_with fail;go_ret;refine⟨_,rfl,?_,?_⟩
 ·exact Sr.at_ aq _ _ _ _ rfl
 ·exact Gr.alloc br _
theorem TW:iD 57 rd r1 r2 im a 0 []:=fun w T=>by go_enter func140,ntmps140;go_wp2_with fail;refine(aA ab _).mono ?_;rintro e w0 ⟨rfl,rfl⟩;go_wp2_with fail;refine(aA ab _).mono ?_;rintro e w1 ⟨rfl,rfl⟩;go_wp2_with fail;refine(aA ab _).mono ?_;rintro e w2 ⟨rfl,rfl⟩;go_wp2_with fail;refine(aA ab _).mono ?_;rintro e w3 ⟨rfl,rfl⟩;go_wp2_with fail;refine(aA ab _).mono ?_;rintro e w4 ⟨rfl,rfl⟩;go_wp2_with fail;refine(aA ab _).mono ?_;rintro e w5 ⟨rfl,rfl⟩;go_wp2_with fail;go_ret;exact⟨_,rfl,.inl ⟨rfl,rfl,rfl⟩,(Gr.refl _).alloc _⟩
end
theorem NQ {a:Int}{i:Iv}(h:i.In):iD i.op i.rd i.r1 i.r2 i.im a (CG a i).length (r9 (CG a i)):=by
 obtain⟨op,rd,r1,r2,im⟩:=i;obtain⟨o1,o2,d0,d1,a0,a1,b0,b1⟩:=h;simp only at o1 o2 d0 d1 a0 a1 b0 b1;unfold CG;simp only;by_cases h0:op=1
 ·rw[at7 h0];subst h0;exact Zk
 rw[at6 h0];by_cases h1:op=2
 ·rw[at7 h1];subst h1;exact Zl
 rw[at6 h1];by_cases h2:op=3
 ·rw[at7 h2];subst h2;exact Zm
 rw[at6 h2];by_cases h3:op=4
 ·rw[at7 h3];subst h3;exact Zn
 rw[at6 h3];by_cases h4:5<=op/\op<=10
 ·rw[at7 h4];exact Zo h4
 rw[at6 h4];by_cases h5:11<=op/\op<=15
 ·rw[at7 h5];exact TP h5
 rw[at6 h5];by_cases h6:16<=op/\op<=18
 ·rw[at7 h6];exact TQ h6
 rw[at6 h6];by_cases h7:op=19/\(r1=0\/rd=0)
 ·rw[at7 h7];obtain⟨rfl,hh⟩:=h7;by_cases hr:r1=0
  ·subst hr;exact NM
  ·have:rd=0:=by rcases hh with hh|hh;exact absurd hh hr;exact hh
   subst this;exact NN (by simpa using hr)
 rw[at6 h7];by_cases h8:19<=op/\op<=27
 ·rw[at7 h8];have hc:op=19\/op=20\/op=21\/op=22\/op=23\/op=24\/op=25\/op=26\/op=27:=ab;rcases hc with rfl|rfl|rfl|rfl|rfl|rfl|rfl|rfl|rfl
  ·have hz:¬(r1=0\/rd=0):=fun hq=>h7 ⟨rfl,hq⟩
   exact NP (by simp;exact fun q=>hz (.inl q)) (by simp;exact fun q=>hz (.inr q))
  ·exact mf (k:=20) an an rfl
  ·exact mf (k:=21) an an rfl
  ·exact mf (k:=22) an an rfl
  ·exact mf (k:=23) an an rfl
  ·exact mf (k:=24) an an rfl
  ·exact mf (k:=25) an an rfl
  ·exact mf (k:=26) an an rfl
  ·exact mf (k:=27) an an rfl
 rw[at6 h8];by_cases h9:28<=op/\op<=45
 ·rw[at7 h9];exact TR h9
 rw[at6 h9];by_cases h10:46<=op/\op<=56
 ·rw[at7 h10];exact TS h10
 rw[at6 h10];by_cases h11:op=58
 ·rw[at7 h11];subst h11;exact TU
 rw[at6 h11];by_cases h12:op=59
 ·rw[at7 h12];subst h12;exact TV
 rw[at6 h12];obtain rfl:op=57:=ab;exact TW
end Ts
namespace Dw
def wI (f u:Int):Int:=if f=1 then u/4096%1048576*4096 else if f=2 then u/1048576%2*2147483648+u/4096%256*4096+u/2048%2*1048576+u/2%1024*2097152 else if f=3 then u%4096*1048576 else if f=4 then u%32*1048576 else if f=5 then u/4096%2*2147483648+u/2048%2*128+u/32%64*33554432+u/2%16*256 else if f=6 then u/32%128*33554432+u%32*128 else if f=8 then u%4*33554432 else 0
def dw (f:Int):Prop:=∀(n:Int) (w:World),nK w -> -2147483648<=n->n<2147483648->Calls prog 93 #[.int .i64 f,.int .i32 n] w fun e w'=>e=.returned (.int .u32 (wI f (n%4294967296)))/\Gr w w'
def pW (k j:Nat):Int×Int×Int:=(oC k (3*j+1),oC k (3*j+2),oC k (3*j))
theorem jP {k:Nat}(hk:k<10)(n:Int)(w:World)(T:nK w)(h0 : -2147483648<=n)(h1:n<2147483648):Calls prog 93 #[.int .i64 k,.int .i32 n] w fun e w'=>e=.returned (.int .u32 (kX (n%4294967296) (pW k) 4))/\Gr w w':=by
 have u0:0<=n%4294967296:=ab;have u1:n%4294967296<4294967296:=ab;have HX:Hid (∀j,j<4->∀w:World,_):=fun j h w=>WU (oC k) w j h
 have HR:=FT hk T;have hsz:(prog.info? 101).map (·.size)=some (twelve (oC k)).toList.length:=al;have hb:=MK k hk;have HP:Hid (∀j,kX (n%4294967296) (pW k) (j+1)=bits .or .u32 (kX (n%4294967296) (pW k) j) ((n%4294967296)/2 ^ (oC k (3*j+1)).toNat%2 ^ (oC k (3*j+2)).toNat*2 ^ (oC k (3*j)).toNat%4294967296)):=fun j=>rfl
 go_enter func93,ntmps93;go_wp2_with (refine auA rfl 101 _ rfl 0 (k*17+4) rfl (twelve (oC k)).toList _ HR underlying101 rfl hsz ?_);go_loopw [5,12] (fun s i wr=>Gr w wr/\∃j:Nat,j<=4/\i=.int .i64 j/\s=.int .u32 (kX (n%4294967296) (pW k) j)) (fun _ i _=>4-(intOf i).toNat)
 case atStart=>exact⟨Gr.refl _,0,apF _,rfl,rfl⟩
 case round=>
  obtain⟨g,j,hj,rfl,rfl⟩:=hrel;by_cases hlt:j<4
  ·have x:=HX j hlt;obtain⟨b0,b1⟩:=hb (3*j);obtain⟨d0,d1⟩:=hb (3*j+1);obtain⟨e0,e1⟩:=hb (3*j+2);have HO:=kH (HP j);generalize kX (n%4294967296) (pW k) j=s at *
   generalize oC k (3*j)=qa at *
   generalize oC k (3*j+1)=qb at *
   generalize oC k (3*j+2)=qc at *
   obtain⟨y,hy⟩:∃y,(n%4294967296)/2^qb.toNat%2^qc.toNat=y:=⟨_,rfl⟩;rw[hy]at HO;have HY:=kH hy;go_wp2;refine auB al al ?_;iterate 7 go_big_quiet_step (fail)
   go_big_quiet_step (exact Calls.quiet_of (lM (n%4294967296) qb qc y _ u0 u1 d0 d1 e0 e1 HY));iterate 5 go_big_quiet_step (fail)
   refine auO ?_;intro _ h;obtain⟨nq,h2⟩:=h;subst h2;go_wp2;go_roundw
   case rel=>exact⟨(g.alloc _ _).drewN _,j+1,ab,by go_num,by rw[HO.out]⟩
   case measure=>simp[intOf];omega
  ·have ej:j=4:=ab;subst ej;go_wp2;go_ret;exact⟨rfl,g⟩
theorem yK:dw 0:=by
 intro n w T h0 h1;refine(jP (k:=0) ab n w T h0 h1).mono fun e w' ⟨he,hg⟩=>⟨he.trans (au ?_),hg⟩
 have u0:0<=n%4294967296:=ab;have u1:n%4294967296<4294967296:=ab;generalize n%4294967296=u at *
 have e0:kX u (pW 0) 0=0:=rfl;have e1:=aB e0 ⟨ab,ab⟩ rfl;have e2:=aB e1 ⟨ab,ab⟩ rfl;have e3:=aB e2 ⟨ab,ab⟩ rfl;have e4:=aB e3 ⟨ab,ab⟩ rfl;rw[e4];show _=0
 omega
theorem yL:dw 1:=by
 intro n w T h0 h1;refine(jP (k:=1) ab n w T h0 h1).mono fun e w' ⟨he,hg⟩=>⟨he.trans (au ?_),hg⟩
 have u0:0<=n%4294967296:=ab;have u1:n%4294967296<4294967296:=ab;generalize n%4294967296=u at *
 have e0:kX u (pW 1) 0=0:=rfl;have e1:=bC e0 12 20 12 rfl ⟨ab,ab⟩ ab an an an;have e2:=aB e1 ⟨ab,ab⟩ rfl;have e3:=aB e2 ⟨ab,ab⟩ rfl;have e4:=aB e3 ⟨ab,ab⟩ rfl;rw[e4];show _=u/4096%1048576*4096
 omega
theorem yM:dw 2:=by
 intro n w T h0 h1;refine(jP (k:=2) ab n w T h0 h1).mono fun e w' ⟨he,hg⟩=>⟨he.trans (au ?_),hg⟩
 have u0:0<=n%4294967296:=ab;have u1:n%4294967296<4294967296:=ab;generalize n%4294967296=u at *
 have e0:kX u (pW 2) 0=0:=rfl;have e1:=bC e0 20 1 31 rfl ⟨ab,ab⟩ ab an an an;have e2:=bC e1 12 8 12 rfl ⟨ab,ab⟩ ab an an an;have e3:=bC e2 11 1 20 rfl ⟨ab,ab⟩ ab an an an;have e4:=bC e3 1 10 21 rfl ⟨ab,ab⟩ (by have:=z_2 (u/2^20%2^1) (u/2^12%2^8) (u/2^11%2^1) ab ab ab ab ab ab;refine auT ?_ this;congr 2;omega) an an an;rw[e4];show _=u/1048576%2*2147483648+u/4096%256*4096+u/2048%2*1048576+u/2%1024*2097152
 omega
theorem yN:dw 3:=by
 intro n w T h0 h1;refine(jP (k:=3) ab n w T h0 h1).mono fun e w' ⟨he,hg⟩=>⟨he.trans (au ?_),hg⟩
 have u0:0<=n%4294967296:=ab;have u1:n%4294967296<4294967296:=ab;generalize n%4294967296=u at *
 have e0:kX u (pW 3) 0=0:=rfl;have e1:=bC e0 0 12 20 rfl ⟨ab,ab⟩ ab an an an;have e2:=aB e1 ⟨ab,ab⟩ rfl;have e3:=aB e2 ⟨ab,ab⟩ rfl;have e4:=aB e3 ⟨ab,ab⟩ rfl;rw[e4];show _=u%4096*1048576
 omega
theorem yO:dw 4:=by
 intro n w T h0 h1;refine(jP (k:=4) ab n w T h0 h1).mono fun e w' ⟨he,hg⟩=>⟨he.trans (au ?_),hg⟩
 have u0:0<=n%4294967296:=ab;have u1:n%4294967296<4294967296:=ab;generalize n%4294967296=u at *
 have e0:kX u (pW 4) 0=0:=rfl;have e1:=bC e0 0 5 20 rfl ⟨ab,ab⟩ ab an an an;have e2:=aB e1 ⟨ab,ab⟩ rfl;have e3:=aB e2 ⟨ab,ab⟩ rfl;have e4:=aB e3 ⟨ab,ab⟩ rfl;rw[e4];show _=u%32*1048576
 omega
theorem yP:dw 5:=by
 intro n w T h0 h1;refine(jP (k:=5) ab n w T h0 h1).mono fun e w' ⟨he,hg⟩=>⟨he.trans (au ?_),hg⟩
 have u0:0<=n%4294967296:=ab;have u1:n%4294967296<4294967296:=ab;generalize n%4294967296=u at *
 have e0:kX u (pW 5) 0=0:=rfl;have e1:=bC e0 12 1 31 rfl ⟨ab,ab⟩ ab an an an;have e2:=bC e1 11 1 7 rfl ⟨ab,ab⟩ ab an an an;have e3:=bC e2 5 6 25 rfl ⟨ab,ab⟩ ab an an an;have e4:=bC e3 1 4 8 rfl ⟨ab,ab⟩ (by have:=z_5 (u/2^12%2^1) (u/2^11%2^1) (u/2^5%2^6) ab ab ab ab ab ab;refine auT ?_ this;congr 2;omega) an an an;rw[e4];show _=u/4096%2*2147483648+u/2048%2*128+u/32%64*33554432+u/2%16*256
 omega
theorem yQ:dw 6:=by
 intro n w T h0 h1;refine(jP (k:=6) ab n w T h0 h1).mono fun e w' ⟨he,hg⟩=>⟨he.trans (au ?_),hg⟩
 have u0:0<=n%4294967296:=ab;have u1:n%4294967296<4294967296:=ab;generalize n%4294967296=u at *
 have e0:kX u (pW 6) 0=0:=rfl;have e1:=bC e0 5 7 25 rfl ⟨ab,ab⟩ ab an an an;have e2:=bC e1 0 5 7 rfl ⟨ab,ab⟩ ab an an an;have e3:=aB e2 ⟨ab,ab⟩ rfl;have e4:=aB e3 ⟨ab,ab⟩ rfl;rw[e4];show _=u/32%128*33554432+u%32*128
 omega
theorem yR:dw 7:=by
 intro n w T h0 h1;refine(jP (k:=7) ab n w T h0 h1).mono fun e w' ⟨he,hg⟩=>⟨he.trans (au ?_),hg⟩
 have u0:0<=n%4294967296:=ab;have u1:n%4294967296<4294967296:=ab;generalize n%4294967296=u at *
 have e0:kX u (pW 7) 0=0:=rfl;have e1:=aB e0 ⟨ab,ab⟩ rfl;have e2:=aB e1 ⟨ab,ab⟩ rfl;have e3:=aB e2 ⟨ab,ab⟩ rfl;have e4:=aB e3 ⟨ab,ab⟩ rfl;rw[e4];show _=0
 omega
theorem yS:dw 8:=by
 intro n w T h0 h1;refine(jP (k:=8) ab n w T h0 h1).mono fun e w' ⟨he,hg⟩=>⟨he.trans (au ?_),hg⟩
 have u0:0<=n%4294967296:=ab;have u1:n%4294967296<4294967296:=ab;generalize n%4294967296=u at *
 have e0:kX u (pW 8) 0=0:=rfl;have e1:=bC e0 0 2 25 rfl ⟨ab,ab⟩ ab an an an;have e2:=aB e1 ⟨ab,ab⟩ rfl;have e3:=aB e2 ⟨ab,ab⟩ rfl;have e4:=aB e3 ⟨ab,ab⟩ rfl;rw[e4];show _=u%4*33554432
 omega
theorem yT:dw 9:=by
 intro n w T h0 h1;refine(jP (k:=9) ab n w T h0 h1).mono fun e w' ⟨he,hg⟩=>⟨he.trans (au ?_),hg⟩
 have u0:0<=n%4294967296:=ab;have u1:n%4294967296<4294967296:=ab;generalize n%4294967296=u at *
 have e0:kX u (pW 9) 0=0:=rfl;have e1:=aB e0 ⟨ab,ab⟩ rfl;have e2:=aB e1 ⟨ab,ab⟩ rfl;have e3:=aB e2 ⟨ab,ab⟩ rfl;have e4:=aB e3 ⟨ab,ab⟩ rfl;rw[e4];show _=0
 omega
theorem uG (f:Int)(h0:0<=f)(h1:f<=9):dw f:=by
 have h:f=0\/f=1\/f=2\/f=3\/f=4\/f=5\/f=6\/f=7\/f=8\/f=9:=ab;rcases h with rfl|rfl|rfl|rfl|rfl|rfl|rfl|rfl|rfl|rfl
 ·exact yK
 ·exact yL
 ·exact yM
 ·exact yN
 ·exact yO
 ·exact yP
 ·exact yQ
 ·exact yR
 ·exact yS
 ·exact yT
end Dw
namespace Dw
def Wv (op rd bL bT jw:Int):Int:=bits .or .u32 (bits .or .u32 (Dc.bK op) (bits .or .u32 (bits .or .u32 (rd%4294967296*128%4294967296) (bL%4294967296*32768%4294967296)) (bT%4294967296*1048576%4294967296))) (wI (Dc.aJ op) (jw%4294967296))
theorem nN (op rd bL bT jw:Int):0<=Wv op rd bL bT jw/\Wv op rd bL bT jw<4294967296:=by
 have h:(Lit.int .u32 (Wv op rd bL bT jw)).wf=true:=wf_bits _ _ _ _;have h':0<=Wv op rd bL bT jw/\Wv op rd bL bT jw<=4294967295:=by simpa[Lit.wf,IntKind.min,IntKind.max,IntKind.signed,IntKind.bits]using h
 omega
theorem jG (op rd bL bT jw:Int)(w:World)(T:nK w)(h0 : -2147483648<=jw)(h1:jw<2147483648):Calls prog 65 #[df op rd bL bT jw] w fun e w'=>e=.returned (.int .u32 (Wv op rd bL bT jw))/\Gr w w':=by unfold df;go_enter func65,ntmps65;go_wp2_with fail;refine(pI op _ (T.of ((Gr.refl _).alloc _ _))).mono ?_;rintro e w1 ⟨rfl,g⟩;have Y0:=Dc.Lb op;have T1:=(T.of ((Gr.refl _).alloc _ _)).of g;obtain⟨f1,f2,f3⟩:=di g;have r0:=f1 0 _ rfl;have r1:=f1 1 _ rfl;have r2:=f1 2 _ rfl;have r3:=f1 3 _ rfl;have r4:=f1 4 _ rfl;have G1:=kH (((Gr.refl _).alloc _ _).trans g);have W1:=kH (uG (Dc.aJ op) Y0.1 Y0.2);go_wp2_with fail;refine(W1 jw _ T1 h0 h1).mono ?_;rintro e w2 ⟨rfl,g2⟩;go_wp2_with fail;go_ret;exact⟨rfl,G1.trans g2⟩
def Same (op rd bL bT jw v:Int):Prop:=fZ v=true/\Dc.aO v=op/\Dc.iF (Dc.aJ (Dc.aO v)) v=rd/\Dc.bZ (Dc.aJ (Dc.aO v)) v=bL/\Dc.bV (Dc.aJ (Dc.aO v)) v=bT/\Dc.bS (Dc.aJ (Dc.aO v)) v=jw
theorem JB (op rd bL bT jw:Int)(w:World)(T:nK w)(h0 : -2147483648<=jw)(h1:jw<2147483648)(hn:¬Same op rd bL bT jw (Wv op rd bL bT jw)):Calls prog 31 #[df op rd bL bT jw] w fun e w'=>e=.returned (.tuple #[.int .u32 0,.int .i64 2])/\Gr w w':=by
 have hb:=nN op rd bL bT jw;have HW:=fun w T=>jG op rd bL bT jw w T h0 h1
 have HD:=fun w T=>jh (Wv op rd bL bT jw) w T hb.1 hb.2
 generalize Wv op rd bL bT jw=v at *
 unfold kP at HD;unfold Same at hn;generalize Dc.iF (Dc.aJ (Dc.aO v)) v=x1 at *
 generalize Dc.bZ (Dc.aJ (Dc.aO v)) v=x2 at *
 generalize Dc.bV (Dc.aJ (Dc.aO v)) v=x3 at *
 generalize Dc.bS (Dc.aJ (Dc.aO v)) v=x4 at *
 generalize Dc.aO v=x0 at *
 generalize fZ v=b at *
 have N:=kH hn;unfold df at *
 have HW':=kH HW;have HD':=kH HD;go_enter func31,ntmps31;go_wp2_with fail;refine(HW' _ (T.of ((Gr.refl _).alloc _ _))).mono ?_;rintro e w1 ⟨rfl,g⟩;have T1:=(T.of ((Gr.refl _).alloc _ _)).of g;have G1:=kH g;go_wp2_with fail;refine(HD' _ T1).mono ?_;rintro e w2 ⟨rfl,g2⟩;have g:=G1.trans g2;obtain⟨f1,f2,f3⟩:=di g;have r0:=f1 0 _ rfl;have r1:=f1 1 _ rfl;have r2:=f1 2 _ rfl;have r3:=f1 3 _ rfl;have r4:=f1 4 _ rfl;have G2:=kH (((Gr.refl _).alloc _ _).trans g);cases b
 ·go_wp2_with fail
  all_goals
   go_ret2;exact⟨rfl,G2.alloc _ _⟩
 ·go_wp2_with fail
  all_goals
   first
    |(go_ret2;exact⟨rfl,G2.alloc _ _⟩)
    |exact(N ⟨(by first|rfl|trivial|assumption),(by first|rfl|trivial|assumption),(by first|rfl|trivial|assumption),(by first|rfl|trivial|assumption),(by first|rfl|trivial|assumption),(by first|rfl|trivial|assumption)⟩).elim
theorem uH (op rd bL bT jw:Int)(w:World)(T:nK w)(h0 : -2147483648<=jw)(h1:jw<2147483648)(hy:Same op rd bL bT jw (Wv op rd bL bT jw)):Calls prog 31 #[df op rd bL bT jw] w fun e w'=>e=.returned (.tuple #[.int .u32 (Wv op rd bL bT jw),.int .i64 0])/\Gr w w':=by
 have hb:=nN op rd bL bT jw;have HW:=fun w T=>jG op rd bL bT jw w T h0 h1
 have HD:=fun w T=>jh (Wv op rd bL bT jw) w T hb.1 hb.2
 generalize Wv op rd bL bT jw=v at *
 unfold kP at HD;unfold Same at hy;generalize Dc.iF (Dc.aJ (Dc.aO v)) v=x1 at *
 generalize Dc.bZ (Dc.aJ (Dc.aO v)) v=x2 at *
 generalize Dc.bV (Dc.aJ (Dc.aO v)) v=x3 at *
 generalize Dc.bS (Dc.aJ (Dc.aO v)) v=x4 at *
 generalize Dc.aO v=x0 at *
 generalize fZ v=b at *
 obtain⟨hb1,e0,e1,e2,e3,e4⟩:=hy;subst hb1;rw[e0,e1,e2,e3,e4]at HD;unfold df at *
 have HW':=kH HW;have HD':=kH HD;go_enter func31,ntmps31;go_wp2_with fail;refine(HW' _ (T.of ((Gr.refl _).alloc _ _))).mono ?_;rintro e w1 ⟨rfl,g⟩;have T1:=(T.of ((Gr.refl _).alloc _ _)).of g;have G1:=kH g;go_wp2_with fail;refine(HD' _ T1).mono ?_;rintro e w2 ⟨rfl,g2⟩;have g:=G1.trans g2;obtain⟨f1,f2,f3⟩:=di g;have r0:=f1 0 _ rfl;have r1:=f1 1 _ rfl;have r2:=f1 2 _ rfl;have r3:=f1 3 _ rfl;have r4:=f1 4 _ rfl;have G2:=kH (((Gr.refl _).alloc _ _).trans g);go_wp2_with fail;go_ret2;exact⟨rfl,G2.alloc _ _⟩
end Dw
namespace Ts
variable[Inhabited Hc.bN]
open Mm Hc Mi Bk
open Hh hiding Rn
variable{sn:Nat}{is:List Iv}
def Iv.Sound (i:Iv):Prop:=Dw.Same i.op i.rd i.r1 i.r2 i.im (Dw.Wv i.op i.rd i.r1 i.r2 i.im)
theorem Iv.Sound.fits {i:Iv}(h:i.Sound):i.In:=by
 have hv:=Dw.nN i.op i.rd i.r1 i.r2 i.im;obtain⟨h0,h1,h2,h3,h4,h5⟩:=h;have hb:=Re.yu hv.1 hv.2;have a:=wN (Dc.aJ (Dc.aO (Dw.Wv i.op i.rd i.r1 i.r2 i.im))) (Dw.Wv i.op i.rd i.r1 i.r2 i.im);have b:=ME (Dc.aJ (Dc.aO (Dw.Wv i.op i.rd i.r1 i.r2 i.im))) (Dw.Wv i.op i.rd i.r1 i.r2 i.im);have c:=MF (Dc.aJ (Dc.aO (Dw.Wv i.op i.rd i.r1 i.r2 i.im))) (Dw.Wv i.op i.rd i.r1 i.r2 i.im);rw[h2]at a;rw[h3]at b;rw[h4]at c;have hne:¬Dc.aO (Dw.Wv i.op i.rd i.r1 i.r2 i.im)=0:=by unfold Dw.fZ at h0;simpa using h0
 rw[h1]at hb hne;exact⟨ab,hb.2,a.1,a.2,b.1,b.2,c.1,c.2⟩
theorem TY (T:Dw.nK w):∀W:World,Gr w W->Dw.nK W:=fun W G=>⟨fun i v e=>(G.cell _ (by exact Dw.lt_of_cell (T.shapes i v e))).trans (T.shapes i v e),fun i v e=>(G.cell _ (by exact Dw.lt_of_cell (T.uppers i v e))).trans (T.uppers i v e)⟩
theorem JC (pc:Int)(sc:Nat)(I:Is w sa sn is)(T:Dw.nK w)(h:sn<=16):Calls prog 139 #[.agg #[.int .u32 pc,.slice sa sn sc]] w fun e w'=>∃b,e=.returned (.bool b)/\(b=true↔∀i∈is,i.Sound)/\Gr w w':=by
 have HI:Hid (∀W:World,Gr w W->_):=fun W G=>I.of G
 have HT:=kH (TY T);have HL:=kH I.len;have HK:=kH I.ok;go_enter func139,ntmps139;go_wp2_with fail;go_loopw [14] (fun i wr=>∃k:Nat,k<=sn/\i=.int .i64 k/\(∀j c,j<k->is[j]?=some c->c.Sound)/\Gr w wr) (fun i _=>sn-(intOf i).toNat)
 case atStart=>exact⟨0,apF _,rfl,fun j c hj=>absurd hj ab,(Gr.refl _).alloc _⟩
 case round=>
  obtain⟨k,hk,rfl,hall,G⟩:=hrel;have HA:=kH hall;have HG:=kH G;by_cases hlt:k<sn
  ·obtain⟨c,hc⟩:∃c,is[k]?=some c:=⟨_,api (by rw[HL.out];exact hlt)⟩;obtain⟨b,o,rfl,hb,hcell⟩:=(HI wr HG).spot ab;obtain⟨p0,p1,p2,p3,p4⟩:=hcell k c hc;have hmem:=aps hc;have ok:=HK c hmem;have hi:=ok.im;by_cases hs:c.Sound
   ·have E:Hid (∀W:World,Gr w W->Calls prog 31 #[.agg #[.int .i64 c.op,.int .i64 c.rd,.int .i64 c.r1,.int .i64 c.r2,.int .i32 c.im]] W fun e w'=>∃v,e=.returned (.tuple #[.int .u32 v,.int .i64 0])/\Gr W w'):=fun W G=>(Dw.uH c.op c.rd c.r1 c.r2 c.im W (HT W G) hi.1 ab hs).mono fun e w' ⟨h1,h2⟩=>⟨_,h1,h2.1⟩
    have HN:Hid (∀j c,j<k+1->is[j]?=some c->c.Sound):=fun j d hj hd=>by
     by_cases e:j=k
     ·subst e;rw[hc]at hd;injection hd with hd;subst hd;exact hs
     ·exact HA j d ab hd
    obtain⟨op,rd,r1,r2,im⟩:=c;simp only at *
    go_wp2_with fail;refine(E _ (by repeat (first|exact HG|refine Gr.alloc ?_ _))).mono ?_;rintro e w1 ⟨v,rfl,G1⟩;have aU:Hid (Gr w w1):=Gr.trans (by repeat (first|exact HG|refine Gr.alloc ?_ _)) G1;go_wp2_with fail;go_roundw
    case rel=>exact⟨k+1,ab,by go_num,HN,aU⟩
    case measure=>simp[intOf];omega
   ·have E:Hid (∀W:World,Gr w W->Calls prog 31 #[.agg #[.int .i64 c.op,.int .i64 c.rd,.int .i64 c.r1,.int .i64 c.r2,.int .i32 c.im]] W fun e w'=>e=.returned (.tuple #[.int .u32 0,.int .i64 2])/\Gr W w'):=fun W G=>(Dw.JB c.op c.rd c.r1 c.r2 c.im W (HT W G) hi.1 ab hs).mono fun e w' ⟨h1,h2⟩=>⟨h1,h2.1⟩
    have HN:Hid (¬∀i∈is,_):=fun q=>hs (q c hmem)
    obtain⟨op,rd,r1,r2,im⟩:=c;simp only at *
    go_wp2_with fail;refine(E _ (by repeat (first|exact HG|refine Gr.alloc ?_ _))).mono ?_;rintro e w1 ⟨rfl,G1⟩;have aU:Hid (Gr w w1):=Gr.trans (by repeat (first|exact HG|refine Gr.alloc ?_ _)) G1;go_wp2_with fail;go_ret;exact⟨false,rfl,⟨fun q=>(by cases q),fun q=>absurd q HN⟩,aU⟩
  ·have ek:k=sn:=ab;have HN:Hid (∀i∈is,i.Sound):=fun i hm=>by
    obtain⟨j,hj⟩:=aqe.1 hm;have:j<is.length:=(apj.1 hj).1;exact HA j i (by rw[HL.out]at this;omega) hj
   go_wp2_with fail;go_ret;exact⟨true,rfl,⟨fun _=>HN,fun _=>rfl⟩,HG⟩
theorem qY {e sz n:Nat}(hO:w.ownsRow base e sz O n xs)(q:w.grownBy w' O.ownBlock)(ht:t≠e)(hk:w.heap[k]?=some (.cells o t f)):w'.heap[k]?=some (.cells o t f):=
 (q.block k (gs hk).1 (fun h=>by
  rcases hO.2 with⟨h0,_⟩|⟨g',cap,cur,hv,_,hg,_⟩
  ·rw[h0]at h;cases h
  ·rw[hv]at h;injection h with h;exact aa hk hg ht h)).trans hk
theorem cu (g:Gr w w')(h:w.heap[k]?=some x):w'.heap[k]?=some x:=by rw[au1 g k (gs h).1];exact h
theorem adD:(prog.info? 235).map (fun i=>(i.zero,i.size,i.bytes))=some (some (.agg #[.int .i64 0,.int .i64 0,.int .i64 0,.int .i64 0,.int .u32 0]),5,40):=al
theorem NS (x0 x1 x2 x3 x4:Int):∀u∈([.int .i64 x0,.int .i64 x1,.int .i64 x2,.int .i64 x3,.int .u32 x4]:List Value),u.oneCell'=true:=by intro u hu;simp only[apx,apB,auw]at hu;rcases hu with rfl|rfl|rfl|rfl|rfl<;>rfl
theorem je {α:Type}{l:List α}{c:α}(h:l[k]?=some c):l.take (k+1)=l.take k++[c]:=by obtain⟨hk,rfl⟩:=apj.1 h;rw[List.take_succ_eq_append_getElem hk]
theorem TZ (pc:Int)(sc:Nat)(I:Is w sa sn is)(T:Dw.nK w)(Q:Tq w)(h:sn<=16)(hs:∀i∈is,i.Sound):Calls prog 110 #[.agg #[.int .u32 pc,.slice sa sn sc]] w fun e w'=>∃ca cn cc,e=.returned (.slice ca cn cc)/\Ct w' ca cn (aS pc is 0)/\Gr w w':=by
 have HI:Hid (∀W:World,Gr w W->Is W sa sn is):=fun W G=>I.of G
 have HL:Hid (is.length=sn):=I.len;have HS:Hid (∀W:World,Gr w W->Calls prog 139 #[.agg #[.int .u32 pc,.slice sa sn sc]] W fun e w'=>e=.returned (.bool true)/\Gr W w'):=fun W G=>(JC pc sc (I.of G) (TY T W G) h).mono fun e w' ⟨b,h1,h2,h3⟩=>⟨by rw[h1,h2.2 hs],h3⟩
 have HM:Hid (∀(k:Nat) (c:Iv),is[k]?=some c->∀W:World,Gr w W->Calls prog 140 #[.agg #[.int .i64 c.op,.int .i64 c.rd,.int .i64 c.r1,.int .i64 c.r2,.int .i32 c.im],.int .u32 ((pc+4*(k:Int))%4294967296)] W fun e w'=>∃v,e=.returned v/\Sr w' v (CG (at4 pc k) c).length 5 (r9 (CG (at4 pc k) c))/\Gr W w'):=fun k c hc W G=>NQ (a:=at4 pc k) (hs c (aps hc)).fits W (Q.of G)
 have HF:Hid (∀k,(aS pc (is.take k) 0).length<=4*k):=fun k=>by
  have:=(ji pc (is.take k) 0 (fun i hi=>(hs i (aq7 hi)).fits)).2;have hl:(is.take k).length<=k:=by rw[ap5];omega
  omega
 have HFm:Hid (∀(k:Nat) (c:Iv),is[k]?=some c->(CG (at4 pc k) c).length<=3):=fun k c hc=>(FU (hs c (aps hc)).fits).2
 have HE:=kH ((ji pc is 0 (fun i hi=>(hs i hi).fits)).1);have HC:Hid (∀(k:Nat) (c:Iv),is[k]?=some c->aS pc (is.take (k+1)) 0=aS pc (is.take k) 0++(⟨1,0,0,0,at4 pc k⟩::CG (at4 pc k) c)):=fun k c hc=>by
  have hk:=(apj.1 hc).1;rw[je hc,uh,apu,ap5,arA ab]
 have HZ:Hid (aS pc (is.take sn) 0=aS pc is 0):=by rw[Hid,<-HL.out,ap9]
 obtain⟨i0,hi,hz0,hz1,hz2⟩:=auz adD;go_enter func110,ntmps110;go_wp2_with fail;refine(HS _ br).mono ?_;rintro e w1 ⟨rfl,G1⟩;have HB1:=kH (cu G1 (at5 w _));have aU:=kH (br.trans G1);have q1:w1.cell? ⟨w.heap.size,1,none⟩=some (.slice sa sn sc):=atZ _ _ _ _ _ _ HB1;go_wp2_with fail;go_loopw [13,3] (fun i cd wr=>∃(k:Nat) (a:Option Addr) (c:Nat),k<=sn/\i=.int .i64 k/\cd=.slice a (aS pc (is.take k) 0).length c/\wr.ownsRow (w.heap.size+1) 235 5 (.slice a (aS pc (is.take k) 0).length c) (aS pc (is.take k) 0).length (r9 (aS pc (is.take k) 0))/\wr.heap[w.heap.size]?=some (.cells #[.int .u32 pc,.slice sa sn sc] 64 (0,0))/\Gr w wr) (fun i _ _=>sn-(intOf i).toNat)
 case atStart=>exact⟨0,none,0,apF _,rfl,rfl,aur _ _ _ _,HB1,aU⟩
 case round=>
  obtain⟨k,a,c0,hk,rfl,rfl,O,B,G⟩:=hrel;have HO:=kH O;have HB:=kH B;have HG:=kH G;have alo:=(apk.1 B).1;have hlen:=HF k;by_cases hlt:k<sn
  ·obtain⟨c,hc⟩:∃c,is[k]?=some c:=⟨_,api (by rw[HL.out];exact hlt)⟩;obtain⟨b,o,rfl,hb,hcell⟩:=(HI wr HG).spot ab;obtain⟨p0,p1,p2,p3,p4⟩:=hcell k c hc;have HM1:Hid _:=HM k c hc;have hm3:=HFm k c hc;have HCk:Hid _:=HC k c hc;generalize aS pc (is.take k) 0=cv at *
   generalize CG (at4 pc k) c=md at *
   obtain⟨op,rd,r1,r2,im⟩:=c;simp only at *
   have Jr:=kH HM1;have adE:=kH HCk;have q0:wr.cell? ⟨w.heap.size,0,none⟩=some (.int .u32 pc):=atZ _ _ _ _ _ _ HB;have CJ:Hid ((aS pc (is.take (k+1)) 0).length=cv.length+1+md.length):=by rw[Hid,adE.out];simp;omega
   have HV1:Hid (r9 (aS pc (is.take (k+1)) 0)=(r9 cv++[.int .i64 1,.int .i64 0,.int .i64 0,.int .i64 0,.int .u32 ((pc+4*(k:Int))%4294967296)])++r9 md):=by rw[Hid,adE.out,TF];simp[r9,vN,at4,Wd.lo]
   have HK:=kH hlt;generalize hcn:cv.length=cn at *
   go_wp2_with (at_builtin;refine kC rfl (.tmp 24) (.tmp 27) rfl underlying177 hi hz0 hz1 hz2 rfl an (base:=w.heap.size+1) (n:=cn) (m:=1) (v:=.slice a cn c0) (vx:=.slice (some ⟨wr.heap.size+1,0,none⟩) 1 1) (olds:=r9 cv) (news:=[.int .i64 1,.int .i64 0,.int .i64 0,.int .i64 0,.int .u32 ((pc+4*(k:Int))%4294967296)]) rfl rfl (aC HO (by repeat (first|exact Gr.refl wr|refine Gr.alloc ?_ _))) (Sr.at_ aq #[.int .i64 1,.int .i64 0,.int .i64 0,.int .i64 0,.int .u32 ((pc+4*(k:Int))%4294967296)] 235 1 1 rfl) (NS _ _ _ _ _) bj ab aE ?_;intro v' w2 hown hgrow;obtain⟨a',c',rfl⟩:=qR hown;have kY:Hid (w2.ownsRow (w.heap.size+1) 235 5 (.slice a' (cn+1) c') (cn+1) (r9 cv++[.int .i64 1,.int .i64 0,.int .i64 0,.int .i64 0,.int .u32 ((pc+4*(k:Int))%4294967296)])):=hown;have HG2:Hid (Gr w w2):=Gr.grown (HG.trans (by repeat (first|exact Gr.refl wr|refine Gr.alloc ?_ _))) hgrow (fun b e=>by have:=(HO.lt b e).1;omega);have HB2:Hid (w2.heap[w.heap.size]?=some (.cells #[.int .u32 pc,.slice (some ⟨b,o,none⟩) sn sc] 64 (0,0))):=qY (aC HO (by repeat (first|exact Gr.refl wr|refine Gr.alloc ?_ _))) hgrow an (cu (by repeat (first|exact Gr.refl wr|refine Gr.alloc ?_ _)) HB);have HJ2:Hid (w2.heap[wr.heap.size]?=some (.cells #[.int .i64 op,.int .i64 rd,.int .i64 r1,.int .i64 r2,.int .i32 im] 59 (0,0))):=qY (aC HO (by repeat (first|exact Gr.refl wr|refine Gr.alloc ?_ _))) hgrow an (auR wr _ _);have r0:w2.cell? ⟨wr.heap.size,0,none⟩=some (.int .i64 op):=atZ _ _ _ _ _ _ HJ2;have r1':w2.cell? ⟨wr.heap.size,1,none⟩=some (.int .i64 rd):=atZ _ _ _ _ _ _ HJ2;have r2':w2.cell? ⟨wr.heap.size,2,none⟩=some (.int .i64 r1):=atZ _ _ _ _ _ _ HJ2;have r3':w2.cell? ⟨wr.heap.size,3,none⟩=some (.int .i64 r2):=atZ _ _ _ _ _ _ HJ2;have r4':w2.cell? ⟨wr.heap.size,4,none⟩=some (.int .i32 im):=atZ _ _ _ _ _ _ HJ2;clear hown hgrow);refine(Jr _ HG2).mono ?_;rintro e w3 ⟨v,rfl,S3,G3⟩;have HS3:=kH S3;have fQ:=kH G3;have hb3:w.heap.size+1<=w3.heap.size:=by have:=(apk.1 HB2).1;have:=G3.size;omega
   generalize md.length=mn at *
   go_wp2_with (at_builtin;refine kC rfl (.tmp 29) (.tmp 32) rfl underlying177 hi hz0 hz1 hz2 rfl an (base:=w.heap.size+1) (n:=cn+1) (m:=mn) (v:=.slice a' (cn+1) c') (vx:=v) (olds:=r9 cv++[.int .i64 1,.int .i64 0,.int .i64 0,.int .i64 0,.int .u32 ((pc+4*(k:Int))%4294967296)]) (news:=r9 md) rfl rfl (aC kY.out fQ.out) HS3.out (TG _) bj ab hb3 ?_;intro v'' w4 hown hgrow;obtain⟨a'',c'',rfl⟩:=qR hown;have Zp:Hid (w4.ownsRow (w.heap.size+1) 235 5 (.slice a'' (cn+1+mn) c'') (cn+1+mn) ((r9 cv++[.int .i64 1,.int .i64 0,.int .i64 0,.int .i64 0,.int .u32 ((pc+4*(k:Int))%4294967296)])++r9 md)):=hown;have fC:Hid (Gr w w4):=Gr.grown (HG2.out.trans fQ.out) hgrow (fun b e=>by have:=(kY.out.lt b e).1;omega);have sj:Hid (w4.heap[w.heap.size]?=some (.cells #[.int .u32 pc,.slice (some ⟨b,o,none⟩) sn sc] 64 (0,0))):=qY (aC kY.out fQ.out) hgrow an (cu fQ.out HB2.out);clear hown hgrow);go_roundw
   case rel=>exact⟨k+1,a'',c'',by have:=HK.out;omega,by go_num,by rw[CJ.out],by rw[CJ.out,HV1.out];exact Zp.out,sj.out,fC.out⟩
   case measure=>simp[intOf];have:=HK;omega
  ·have ek:k=sn:=ab;subst ek;have HOE:Hid (wr.ownsRow (w.heap.size+1) 235 5 (.slice a (aS pc is 0).length c0) (aS pc is 0).length (r9 (aS pc is 0))):=by have:=HO;rwa[HZ.out]at this
   have HZ2:Hid ((aS pc (is.take k) 0).length=(aS pc is 0).length):=by rw[Hid,HZ.out]
   generalize(aS pc (is.take k) 0).length=cn at *
   go_wp2_with fail;go_ret;have e:=HZ2;subst e;obtain⟨ca,cc,hv,C⟩:=Zd HOE (fun i hi=>(HE i hi).2.1) (fun i hi=>by have:=(HE i hi).2.2;omega);injection hv with hv1 _ hv2;subst hv1 hv2;exact⟨_,_,_,rfl,C,HG⟩
end Ts
namespace Dw
open Re
variable{k:Int}
theorem tmod_zero (n k:Int):n.tmod k=0↔n%k=0:=by rw[<-Int.dvd_iff_tmod_eq_zero,<-Int.dvd_iff_emod_eq_zero]
abbrev TB (k:Int):Prop:=Dc.bK k=Dc.bK k%128+Dc.bK k/4096%8*4096+Dc.bK k/33554432*33554432/\0<=Dc.bK k/\Dc.bK k<4294967296/\
 (Dc.aJ k=8->Dc.bK k/33554432%4=0)/\(Dc.aJ k=1\/Dc.aJ k=2\/Dc.aJ k=3\/Dc.aJ k=5\/Dc.aJ k=6->Dc.bK k/33554432=0)/\(Dc.aJ k=1\/Dc.aJ k=2->Dc.bK k/4096%8=0)
theorem Zq:∀n:Fin 58,1<=n.val->TB (n.val:Int):=by decide +kernel
theorem tb (h1:1<=k)(h2:k<=57):TB k:=by have:=Zq ⟨k.toNat,ab⟩ aE;rwa[show((⟨k.toNat,ab⟩:Fin 58).val:Int)=k by simp;omega]at this
theorem canon {a b c:Int}(hv:v=l+a*128+m*4096+b*32768+c*1048576+u*33554432)(l0:0≤l)(l1:l<128)(a0:0≤a)(a1:a<32)(m0:0≤m)(m1:m<8)(b0:0<=b)(b1:b<32)(c0:0<=c)(c1:c<32):v%128=l/\v/128%32=a/\v/4096%8=m/\v/32768%32=b/\v/1048576%32=c/\v/33554432=u/\v/1048576=c+u*32/\v/4096=m+b*8+c*256+u*8192/\v/128=a+(m+b*8+c*256+u*8192)*32/\v/32768=b+c*32+u*1024:=by
 have e5:v/33554432=u:=ab;have e4:v/1048576=c+u*32:=ab;have e3:v/32768=b+c*32+u*1024:=ab;have e2:v/4096=m+b*8+c*256+u*8192:=ab;have e1:v/128=a+(m+b*8+c*256+u*8192)*32:=ab;refine⟨ab,by rw[e1];omega,by rw[e2];omega,by rw[e3];omega,by rw[e4];omega,e5,e4,e2,e1,e3⟩
theorem NT (hT:T=l+m*4096+u*33554432)(l0:0<=l)(l1:l<128)(m0:0<=m)(m1:m<8)(u0:0<=u)(u1:u<128)(a1:0<=rd)(a2:rd<=31)(b1:0<=bL)(b2:bL<=31)(c1:0<=bT)(c2:bT<=31):bits .or .u32 T (bits .or .u32 (bits .or .u32 (rd%4294967296*128%4294967296) (bL%4294967296*32768%4294967296)) (bT%4294967296*1048576%4294967296))=l+rd*128+m*4096+bL*32768+bT*1048576+u*33554432:=by
 rw[show rd%4294967296*128%4294967296=rd*2^7 by omega,show bL%4294967296*32768%4294967296=bL*2^15 by omega,show bT%4294967296*1048576%4294967296=bT*2^20 by omega];have s1:Wd.rW (rd*2^7) (bL*2^15)=rd*2^7+bL*2^15:=iX _ _ 15 5 ab b1 ab ab;have s2:Wd.rW (rd*2^7+bL*2^15) (bT*2^20)=rd*2^7+bL*2^15+bT*2^20:=iX _ _ 20 5 ab c1 ab ab;rw[cO (rd*2^7) (bL*2^15) ab ab ab ab,s1,cO _ (bT*2^20) ab ab ab ab,s2,
  cO T _ ab ab ab ab,<-s2,<-s1,<-qN,<-qN]
 have z1:T/2^7=m*32+u*262144:=ab;rw[iX T rd 7 5 ab a1 (by rw[z1];omega) ab];have z2:(T+rd*2^7)/2^15=u*1024:=ab;rw[iX _ bL 15 5 ab b1 (by rw[z2];omega) ab];have z3:(T+rd*2^7+bL*2^15)/2^20=u*32:=ab;rw[iX _ bT 20 5 ab c1 (by rw[z3];omega) ab];omega
theorem ig {f:Int}(h0:0≤v)(h1:v<4294967296)(o1:1≤op)(o2:op≤59)(hf:Dc.aJ op=f)(ht:Dc.part f v=Dc.bK op)(hl:op=46→v/1048576%32=0)(e1:Dc.iF f v=rd)(e2:Dc.bZ f v=bL)(e3:Dc.bV f v=bT)(e4:Dc.bS f v=jw):Same op rd bL bT jw v:=by
 have hr:=Dc.zZ h0 h1 o1 o2 (by rw[hf];exact ht);have hd:Dc.aO v=op:=by unfold Dc.aO;rw[hr,ak]
 refine⟨by unfold fZ;rw[hd];simp;omega,hd,by rw[hd,hf];exact e1,by rw[hd,hf];exact e2,by rw[hd,hf];exact e3,by rw[hd,hf];exact e4⟩
end Dw
namespace Dw
open Re
variable{p q:Int}
theorem or_zero (n:Int)(h0:0<=n)(h1:n<4294967296):bits .or .u32 n 0=n:=(YO n 0 0 h0 ab ab ab ab).trans ab
theorem kS (hT:Dc.bK op=l+m*4096+u*33554432)(l0:0≤l)(l1:l<128)(m0:0≤m)(m1:m<8)(u0:0≤u)(u1:u<128)(a1:0<=rd)(a2:rd<=31)(b1:0<=bL)(b2:bL<=31)(c1:0<=bT)(c2:bT<=31):Wv op rd bL bT jw=bits .or .u32 (l+rd*128+m*4096+bL*32768+bT*1048576+u*33554432) (wI (Dc.aJ op) (jw%4294967296)):=by unfold Wv;rw[NT hT l0 l1 m0 m1 u0 u1 a1 a2 b1 b2 c1 c2]
theorem jq (h1:1<=op)(h2:op<=57):∃l m u,Dc.bK op=l+m*4096+u*33554432/\0<=l/\l<128/\0<=m/\m<8/\0<=u/\u<128/\(Dc.aJ op=8->u%4=0)/\ (Dc.aJ op=1\/Dc.aJ op=2\/Dc.aJ op=3\/Dc.aJ op=5\/Dc.aJ op=6->u=0)/\(Dc.aJ op=1\/Dc.aJ op=2->m=0):=by obtain⟨t1,t2,t3,t4,t5,t6⟩:=tb h1 h2;exact⟨_,_,_,t1,ab,ab,ab,ab,ab,ab,t4,t5,t6⟩
theorem Zr (o1:1<=op)(o2:op<=57)(hf:Dc.aJ op=1)(a1:0<=rd)(a2:rd<=31)(n0 : -2147483648<=n)(n1:n<2147483648)(hn:n%4096=0):Same op rd 0 0 n (Wv op rd 0 0 n):=by
 obtain⟨l,m,u,hT,l0,l1,m0,m1,u0,u1,t8,tu,tm⟩:=jq o1 o2;have hu:=tu (Or.inl hf);have hm:=tm (Or.inl hf);have hb:=nN op rd 0 0 n;rw[kS hT l0 l1 m0 m1 u0 u1 a1 a2 ab ab ab ab,hf]at hb ⊢;have hD:wI 1 (n%4294967296)=n%4294967296/4096%1048576*2^12:=rfl;have hV:bits .or .u32 (l+rd*128+m*4096+0*32768+0*1048576+u*33554432) (wI 1 (n%4294967296))=l+rd*128+n%4294967296/4096%1048576*4096:=by
  rw[hD,oz _ _ 12 20 ab ab ab ab ab ab ab];omega
 rw[hV]at hb ⊢;generalize hv:l+rd*128+n%4294967296/4096%1048576*4096=v at *
 refine ig hb.1 hb.2 o1 ab hf (show v%128=_ by omega) (fun h=>absurd hf (by rw[h];decide)) (show v/128%32=rd by omega) rfl rfl ?_;show Wd.sg v-v%4096=n
 unfold Wd.sg;split<;>omega
theorem Zt (o1:1<=op)(o2:op<=57)(hf:Dc.aJ op=2)(a1:0<=rd)(a2:rd<=31)(n0 : -1048576<=n)(n1:n<=1048574)(hn:n%2=0):Same op rd 0 0 n (Wv op rd 0 0 n):=by
 obtain⟨l,m,u,hT,l0,l1,m0,m1,u0,u1,t8,tu,tm⟩:=jq o1 o2;have hu:=tu (Or.inr (Or.inl hf));have hm:=tm (Or.inr hf);have hb:=nN op rd 0 0 n;rw[kS hT l0 l1 m0 m1 u0 u1 a1 a2 ab ab ab ab,hf]at hb ⊢;have hD:wI 2 (n%4294967296)=n%4294967296/1048576%2*2147483648+n%4294967296/4096%256*4096+n%4294967296/2048%2*1048576+n%4294967296/2%1024*2097152:=rfl;have hN:Dc.iT 1048576 (n%4294967296/1048576%2*1048576+n%4294967296/4096%256*4096+n%4294967296/2048%2*2048+n%4294967296/2%1024*2)=n:=by
  unfold Dc.iT;split<;>omega
 have x0:0<=n%4294967296/1048576%2/\n%4294967296/1048576%2<2:=ab;have y0:0<=n%4294967296/4096%256/\n%4294967296/4096%256<256:=ab;have z0:0<=n%4294967296/2048%2/\n%4294967296/2048%2<2:=ab;have s0:0<=n%4294967296/2%1024/\n%4294967296/2%1024<1024:=ab;rw[hD]at hb ⊢;generalize n%4294967296/1048576%2=x at *
 generalize n%4294967296/4096%256=y at *
 generalize n%4294967296/2048%2=z at *
 generalize n%4294967296/2%1024=s at *
 have hV:bits .or .u32 (l+rd*128+m*4096+0*32768+0*1048576+u*33554432) (x*2147483648+y*4096+z*1048576+s*2097152)=l+rd*128+y*4096+z*1048576+s*2097152+x*2147483648:=by
  rw[show x*2147483648+y*4096+z*1048576+s*2097152=(x*524288+y+z*256+s*512)*2^12 by omega,oz _ _ 12 20 ab ab ab ab ab ab ab];omega
 rw[hV]at hb ⊢;generalize hv:l+rd*128+y*4096+z*1048576+s*2097152+x*2147483648=v at *
 have q1:v/2147483648=x:=ab;have q2:v/2097152=s+x*1024:=ab;have q3:v/1048576=z+s*2+x*2048:=ab;have q4:v/4096=y+z*256+s*512+x*524288:=ab;have q5:v/128=rd+(y+z*256+s*512+x*524288)*32:=ab;refine ig hb.1 hb.2 o1 ab hf (show v%128=_ by omega) (fun h=>absurd hf (by rw[h];decide)) (show v/128%32=rd by rw[q5];omega) rfl rfl ?_;show Dc.iT 1048576 (v/2147483648*1048576+v/4096%256*4096+v/1048576%2*2048+v/2097152%1024*2)=n
 rw[q1,q2,q3,q4,show(y+z*256+s*512+x*524288)%256=y by omega,show(z+s*2+x*2048)%2=z by omega,show(s+x*1024)%1024=s by omega];exact hN
theorem yU (o1:1<=op)(o2:op<=57)(hf:Dc.aJ op=3)(a1:0<=rd)(a2:rd<=31)(b1:0<=bL)(b2:bL<=31)(n0 : -2048<=n)(n1:n<=2047):Same op rd bL 0 n (Wv op rd bL 0 n):=by
 obtain⟨l,m,u,hT,l0,l1,m0,m1,u0,u1,t8,tu,tm⟩:=jq o1 o2;have hu:=tu (Or.inr (Or.inr (Or.inl hf)));have hb:=nN op rd bL 0 n;rw[kS hT l0 l1 m0 m1 u0 u1 a1 a2 b1 b2 ab ab,hf]at hb ⊢;have hD:wI 3 (n%4294967296)=n%4294967296%4096*2^20:=rfl;have hV:bits .or .u32 (l+rd*128+m*4096+bL*32768+0*1048576+u*33554432) (wI 3 (n%4294967296))=l+rd*128+m*4096+bL*32768+n%4294967296%4096*1048576:=by
  rw[hD,oz _ _ 20 12 ab ab ab ab ab ab ab];omega
 rw[hV]at hb ⊢;have hN:Dc.iT 2048 (n%4294967296%4096)=n:=by unfold Dc.iT;split<;>omega
 have e0:0<=n%4294967296%4096/\n%4294967296%4096<4096:=ab;generalize n%4294967296%4096=e at *
 generalize hv:l+rd*128+m*4096+bL*32768+e*1048576=v at *
 obtain⟨v1,v2,v3,v4,v5,v6,v7,_,_,_⟩:=canon (v:=v) (l:=l) (a:=rd) (m:=m) (b:=bL) (c:=e%32) (u:=e/32) ab l0 l1 a1 ab m0 m1 b1 ab ab ab;refine ig hb.1 hb.2 o1 ab hf (show v%128+v/4096%8*4096=_ by rw[v1,v3];omega) (fun h=>absurd hf (by rw[h];decide)) v2 v4 rfl ?_;show Dc.iT 2048 (v/1048576)=n
 rw[v7,show e%32+e/32*32=e by omega];exact hN
theorem Zu (o1:1<=op)(o2:op<=57)(hf:Dc.aJ op=4)(a1:0<=rd)(a2:rd<=31)(b1:0<=bL)(b2:bL<=31)(n0:0<=n)(n1:n<=31):Same op rd bL 0 n (Wv op rd bL 0 n):=by
 obtain⟨l,m,u,hT,l0,l1,m0,m1,u0,u1,t8,tu,tm⟩:=jq o1 o2;have hb:=nN op rd bL 0 n;rw[kS hT l0 l1 m0 m1 u0 u1 a1 a2 b1 b2 ab ab,hf]at hb ⊢;have hD:wI 4 (n%4294967296)=n*2^20:=by show n%4294967296%32*1048576=_;omega
 have hz:(l+rd*128+m*4096+bL*32768+0*1048576+u*33554432)/2^20=u*32:=ab;have hV:bits .or .u32 (l+rd*128+m*4096+bL*32768+0*1048576+u*33554432) (wI 4 (n%4294967296))=l+rd*128+m*4096+bL*32768+n*1048576+u*33554432:=by
  rw[hD,oz _ _ 20 5 ab ab (by rw[hz];omega) ab ab ab ab];omega
 rw[hV]at hb ⊢;generalize hv:l+rd*128+m*4096+bL*32768+n*1048576+u*33554432=v at *
 obtain⟨v1,v2,v3,v4,v5,v6,v7,_,_,_⟩:=canon hv.symm l0 l1 a1 ab m0 m1 b1 ab n0 ab;exact ig hb.1 hb.2 o1 ab hf (show v%128+v/4096%8*4096+v/33554432*33554432=_ by rw[v1,v3,v6];omega) (fun h=>absurd hf (by rw[h];decide)) v2 v4 rfl v5
theorem T9 (s0:0<=S)(s1:S<33554432)(sz:S/128%32=0)(p0:0<=p)(p1:p<32)(q0:0<=q)(q1:q<128):bits .or .u32 S (p*128+q*33554432)=S+p*128+q*33554432:=by
 rw[cO S _ s0 ab ab ab,show p*128+q*33554432=p*2^7+q*2^25 by omega,<-iX (p*2^7) q 25 7 ab q0 ab ab,<-qN,
  iX S p 7 5 s0 p0 sz ab,iX _ q 25 7 ab q0 ab ab]
 omega
theorem Gh {f:Int}(o1:1≤op)(o2:op≤57)(hf:Dc.aJ op=f)(f56:f=5∨f=6)(b1:0≤bL)(b2:bL≤31)(c1:0≤bT)(c2:bT≤31)(p0:0<=p)(p1:p<32)(q0:0<=q)(q1:q<128)(hD:wI f (n%4294967296)=p*128+q*33554432)(hI:∀v:Int,v/33554432=q->v/128%32=p->Dc.bS f v=n):Same op 0 bL bT n (Wv op 0 bL bT n):=by
 obtain⟨l,m,u,hT,l0,l1,m0,m1,u0,u1,t8,tu,tm⟩:=jq o1 o2;have hu:=tu ab;have hb:=nN op 0 bL bT n;rw[kS hT l0 l1 m0 m1 u0 u1 ab ab b1 b2 c1 c2,hf]at hb ⊢;have hz:(l+0*128+m*4096+bL*32768+bT*1048576+u*33554432)/128=(m+bL*8+bT*256)*32:=ab;rw[hD,T9 ab ab (by rw[hz];omega) p0 p1 q0 q1]at hb ⊢;generalize hv:l+0*128+m*4096+bL*32768+bT*1048576+u*33554432+p*128+q*33554432=v at *
 obtain⟨v1,v2,v3,v4,v5,v6,v7,_,_,_⟩:=canon (v:=v) (l:=l) (a:=p) (m:=m) (b:=bL) (c:=bT) (u:=q) ab l0 l1 p0 p1 m0 m1 b1 ab c1 ab;rcases f56 with rfl|rfl
 ·exact ig hb.1 hb.2 o1 ab hf (show v%128+v/4096%8*4096=_ by rw[v1,v3];omega) (fun h=>absurd hf (by rw[h];decide)) rfl v4 v5 (hI v v6 v2)
 ·exact ig hb.1 hb.2 o1 ab hf (show v%128+v/4096%8*4096=_ by rw[v1,v3];omega) (fun h=>absurd hf (by rw[h];decide)) rfl v4 v5 (hI v v6 v2)
theorem Zv (o1:1<=op)(o2:op<=57)(hf:Dc.aJ op=5)(b1:0<=bL)(b2:bL<=31)(c1:0<=bT)(c2:bT<=31)(n0 : -4096<=n)(n1:n<=4094)(hn:n%2=0):Same op 0 bL bT n (Wv op 0 bL bT n):=by
 have hN:Dc.iT 4096 (n%4294967296/4096%2*4096+n%4294967296/2048%2*2048+n%4294967296/32%64*32+n%4294967296/2%16*2)=n:=by
  unfold Dc.iT;split<;>omega
 have hD:wI 5 (n%4294967296)=n%4294967296/4096%2*2147483648+n%4294967296/2048%2*128+n%4294967296/32%64*33554432+n%4294967296/2%16*256:=rfl;have x0:0<=n%4294967296/4096%2/\n%4294967296/4096%2<2:=ab;have y0:0<=n%4294967296/2048%2/\n%4294967296/2048%2<2:=ab;have z0:0<=n%4294967296/32%64/\n%4294967296/32%64<64:=ab;have s0:0<=n%4294967296/2%16/\n%4294967296/2%16<16:=ab;refine Gh (p:=n%4294967296/2048%2+n%4294967296/2%16*2) (q:=n%4294967296/4096%2*64+n%4294967296/32%64) o1 o2 hf (Or.inl rfl) b1 b2 c1 c2 ab ab ab ab (by rw[hD];omega) ?_;intro v h1 h2;generalize n%4294967296/4096%2=x at *
 generalize n%4294967296/2048%2=y at *
 generalize n%4294967296/32%64=z at *
 generalize n%4294967296/2%16=s at *
 show Dc.iT 4096 (v/2147483648*4096+v/128%2*2048+v/33554432%64*32+v/256%16*2)=n
 rw[show v/2147483648=x by omega,h1,show(x*64+z)%64=z by omega,show v/128%2=y by omega,show v/256%16=s by omega];exact hN
theorem Zw (o1:1<=op)(o2:op<=57)(hf:Dc.aJ op=6)(b1:0<=bL)(b2:bL<=31)(c1:0<=bT)(c2:bT<=31)(n0 : -2048<=n)(n1:n<=2047):Same op 0 bL bT n (Wv op 0 bL bT n):=by
 have hN:Dc.iT 2048 (n%4294967296/32%128*32+n%4294967296%32)=n:=by unfold Dc.iT;split<;>omega
 have hD:wI 6 (n%4294967296)=n%4294967296/32%128*33554432+n%4294967296%32*128:=rfl;refine Gh (p:=n%4294967296%32) (q:=n%4294967296/32%128) o1 o2 hf (Or.inr rfl) b1 b2 c1 c2 ab ab ab ab (by rw[hD];omega) ?_;intro v h1 h2;show Dc.iT 2048 (v/33554432*32+v/128%32)=n
 rw[h1,h2];exact hN
theorem Zx (o1:1<=op)(o2:op<=57)(hf:Dc.aJ op=7)(a1:0<=rd)(a2:rd<=31)(b1:0<=bL)(b2:bL<=31)(c1:0<=bT)(c2:bT<=31):Same op rd bL bT 0 (Wv op rd bL bT 0):=by
 obtain⟨l,m,u,hT,l0,l1,m0,m1,u0,u1,t8,tu,tm⟩:=jq o1 o2;have hb:=nN op rd bL bT 0;rw[kS hT l0 l1 m0 m1 u0 u1 a1 a2 b1 b2 c1 c2,hf,show wI 7 (0%4294967296)=0 from rfl,or_zero _ ab ab]at hb ⊢;generalize hv:l+rd*128+m*4096+bL*32768+bT*1048576+u*33554432=v at *
 obtain⟨v1,v2,v3,v4,v5,v6,v7,_,_,_⟩:=canon hv.symm l0 l1 a1 ab m0 m1 b1 ab c1 ab;exact ig hb.1 hb.2 o1 ab hf (show v%128+v/4096%8*4096+v/33554432*33554432=_ by rw[v1,v3,v6];omega) (fun h=>absurd hf (by rw[h];decide)) v2 v4 v5 rfl
theorem Zy (o1:1<=op)(o2:op<=57)(hf:Dc.aJ op=8)(a1:0<=rd)(a2:rd<=31)(b1:0<=bL)(b2:bL<=31)(c1:0<=bT)(c2:bT<=31)(n0:0<=n)(n1:n<=3)(h46:op=46->bT=0):Same op rd bL bT n (Wv op rd bL bT n):=by
 obtain⟨l,m,u,hT,l0,l1,m0,m1,u0,u1,t8,tu,tm⟩:=jq o1 o2;have hu:=t8 hf;have hb:=nN op rd bL bT n;rw[kS hT l0 l1 m0 m1 u0 u1 a1 a2 b1 b2 c1 c2,hf]at hb ⊢;have hD:wI 8 (n%4294967296)=n*2^25:=by show n%4294967296%4*33554432=_;omega
 have hz:(l+rd*128+m*4096+bL*32768+bT*1048576+u*33554432)/2^25=u:=ab;have hV:bits .or .u32 (l+rd*128+m*4096+bL*32768+bT*1048576+u*33554432) (wI 8 (n%4294967296))=l+rd*128+m*4096+bL*32768+bT*1048576+(u+n)*33554432:=by
  rw[hD,oz _ _ 25 2 ab ab (by rw[hz];omega) ab ab ab ab];omega
 rw[hV]at hb ⊢;generalize hv:l+rd*128+m*4096+bL*32768+bT*1048576+(u+n)*33554432=v at *
 obtain⟨v1,v2,v3,v4,v5,v6,v7,_,_,_⟩:=canon hv.symm l0 l1 a1 ab m0 m1 b1 ab c1 ab;have v8:v/134217728=u/4:=ab;exact ig hb.1 hb.2 o1 ab hf (show v%128+v/4096%8*4096+v/134217728*134217728=_ by rw[v1,v3,v8];omega) (fun h=>by rw[v5];exact h46 h) v2 v4 v5 (show v/33554432%4=n by rw[v6];omega)
theorem Zz (o1:58<=op)(o2:op<=59):Same op 0 0 0 0 (Wv op 0 0 0 0):=by
 have h:op=58\/op=59:=ab;rcases h with rfl|rfl
 ·exact ig (f:=9) (v:=Wv 58 0 0 0 0) (by decide +kernel) (by decide +kernel) ab ab an (by decide +kernel) (fun h=>ab) rfl rfl rfl rfl
 ·exact ig (f:=9) (v:=Wv 59 0 0 0 0) (by decide +kernel) (by decide +kernel) ab ab an (by decide +kernel) (fun h=>ab) rfl rfl rfl rfl
theorem BC (h1:1<=op)(h2:op<=2):Dc.aJ op=1:=by unfold Dc.aJ;repeat (first|rw[dU]|rw[ak])
theorem BF (h1:3<=op)(h2:op<=3):Dc.aJ op=2:=by unfold Dc.aJ;repeat (first|rw[dU]|rw[ak])
theorem BG (h1:4<=op)(h2:op<=4):Dc.aJ op=3:=by unfold Dc.aJ;repeat (first|rw[dU]|rw[ak])
theorem BH (h1:5<=op)(h2:op<=10):Dc.aJ op=5:=by unfold Dc.aJ;repeat (first|rw[dU]|rw[ak])
theorem wY (h1:11<=op)(h2:op<=15):Dc.aJ op=3:=by unfold Dc.aJ;repeat (first|rw[dU]|rw[ak])
theorem wZ (h1:16<=op)(h2:op<=18):Dc.aJ op=6:=by unfold Dc.aJ;repeat (first|rw[dU]|rw[ak])
theorem xk (h1:19<=op)(h2:op<=24):Dc.aJ op=3:=by unfold Dc.aJ;repeat (first|rw[dU]|rw[ak])
theorem xq (h1:25<=op)(h2:op<=27):Dc.aJ op=4:=by unfold Dc.aJ;repeat (first|rw[dU]|rw[ak])
theorem xu (h1:28<=op)(h2:op<=45):Dc.aJ op=7:=by unfold Dc.aJ;repeat (first|rw[dU]|rw[ak])
theorem xw (h1:46<=op)(h2:op<=56):Dc.aJ op=8:=by unfold Dc.aJ;repeat (first|rw[dU]|rw[ak])
theorem xx (h1:57<=op)(h2:op<=57):Dc.aJ op=3:=by unfold Dc.aJ;repeat (first|rw[dU]|rw[ak])
theorem JD (h1:58<=op)(h2:op<=59):Dc.aJ op=9:=by unfold Dc.aJ;repeat (first|rw[dU]|rw[ak])
theorem uI (h:XK op rd bL bT n)(n0 : -2147483648<=n)(n1:n<2147483648):Same op rd bL bT n (Wv op rd bL bT n):=by
 obtain⟨⟨o1,o2,a1,a2,b1,b2,c1,c2⟩,h⟩:=h;rcases h with⟨p,q,r⟩|⟨p,q,r⟩|⟨p,q,r⟩|⟨p,q,r⟩|⟨p,q,r⟩|⟨p,q,r⟩|⟨p,q,r⟩|⟨p,q,r⟩|⟨p,q,r⟩|⟨p,q,r⟩|⟨p,q,r⟩|⟨p,q,r⟩
 ·obtain⟨rfl,rfl,r⟩:=r;exact Zr o1 ab (BC p q) a1 a2 n0 n1 ((tmod_zero _ _).1 r)
 ·obtain⟨rfl,rfl,r1,r2,r⟩:=r;exact Zt o1 ab (BF p q) a1 a2 r1 r2 ((tmod_zero _ _).1 r)
 ·obtain⟨rfl,r1,r2⟩:=r;exact yU o1 ab (BG p q) a1 a2 b1 b2 r1 r2
 ·obtain⟨rfl,r1,r2,r⟩:=r;exact Zv o1 ab (BH p q) b1 b2 c1 c2 r1 r2 ((tmod_zero _ _).1 r)
 ·obtain⟨rfl,r1,r2⟩:=r;exact yU o1 ab (wY p q) a1 a2 b1 b2 r1 r2
 ·obtain⟨rfl,r1,r2⟩:=r;exact Zw o1 ab (wZ p q) b1 b2 c1 c2 r1 r2
 ·obtain⟨rfl,r1,r2⟩:=r;exact yU o1 ab (xk p q) a1 a2 b1 b2 r1 r2
 ·obtain⟨rfl,r1,r2⟩:=r;exact Zu o1 ab (xq p q) a1 a2 b1 b2 r1 r2
 ·subst r;exact Zx o1 ab (xu p q) a1 a2 b1 b2 c1 c2
 ·obtain⟨r1,r2,r⟩:=r;exact Zy o1 ab (xw p q) a1 a2 b1 b2 c1 c2 r1 r2 (fun h=>ab)
 ·obtain⟨rfl,r1,r2⟩:=r;exact yU o1 ab (xx p q) a1 a2 b1 b2 r1 r2
 ·obtain⟨rfl,rfl,rfl,rfl⟩:=r;exact Zz p q
theorem uJ (h0:0<=v)(h1:v<4294967296)(h:Same op rd bL bT n v):XK op rd bL bT n:=by
 obtain⟨hok,e0,e1,e2,e3,e4⟩:=h;have hd:Dc.aO v≠0:=by simpa[fZ]using hok
 have hbd:0<=Dc.aO v/\Dc.aO v<=59:=by
  have:=Dc.kI h0 h1;unfold Dc.aO;split<;>omega
 have h46:op=46->v/1048576%32=0:=by
  intro h;rw[h]at e0;unfold Dc.aO at e0;split at e0
  ·omega
  ·rename_i hh;have:Dc.raw v=46:=e0;omega
 rw[e0]at hd hbd e1 e2 e3 e4;clear hok e0;by_cases u1:op<=2
 ·rw[BC ab ab]at e1 e2 e3 e4;have e1:v/128%32=rd:=e1;have e2:0=bL:=e2;have e3:0=bT:=e3;have e4:Wd.sg v-v%4096=n:=e4;exact⟨⟨ab,ab,ab,ab,ab,ab,ab,ab⟩,Or.inl ⟨ab,ab,⟨ab,ab,(tmod_zero _ _).2 (by unfold Wd.sg at e4;split at e4<;>omega)⟩⟩⟩
 by_cases u3:op<=3
 ·rw[BF ab ab]at e1 e2 e3 e4;have e1:v/128%32=rd:=e1;have e2:0=bL:=e2;have e3:0=bT:=e3;have e4:Dc.iT 1048576 (v/2147483648*1048576+v/4096%256*4096+v/1048576%2*2048+v/2097152%1024*2)=n:=e4;exact⟨⟨ab,ab,ab,ab,ab,ab,ab,ab⟩,Or.inr (Or.inl ⟨ab,ab,⟨ab,ab,by unfold Dc.iT at e4;split at e4<;>omega,by unfold Dc.iT at e4;split at e4<;>omega,(tmod_zero _ _).2 (by unfold Dc.iT at e4;split at e4<;>omega)⟩⟩)⟩
 by_cases u4:op<=4
 ·rw[BG ab ab]at e1 e2 e3 e4;have e1:v/128%32=rd:=e1;have e2:v/32768%32=bL:=e2;have e3:0=bT:=e3;have e4:Dc.iT 2048 (v/1048576)=n:=e4;exact⟨⟨ab,ab,ab,ab,ab,ab,ab,ab⟩,Or.inr (Or.inr (Or.inl ⟨ab,ab,⟨ab,by unfold Dc.iT at e4;split at e4<;>omega,by unfold Dc.iT at e4;split at e4<;>omega⟩⟩))⟩
 by_cases u5:op<=10
 ·rw[BH ab ab]at e1 e2 e3 e4;have e1:0=rd:=e1;have e2:v/32768%32=bL:=e2;have e3:v/1048576%32=bT:=e3;have e4:Dc.iT 4096 (v/2147483648*4096+v/128%2*2048+v/33554432%64*32+v/256%16*2)=n:=e4;exact⟨⟨ab,ab,ab,ab,ab,ab,ab,ab⟩,Or.inr (Or.inr (Or.inr (Or.inl ⟨ab,ab,⟨ab,by unfold Dc.iT at e4;split at e4<;>omega,by unfold Dc.iT at e4;split at e4<;>omega,(tmod_zero _ _).2 (by unfold Dc.iT at e4;split at e4<;>omega)⟩⟩)))⟩
 by_cases u11:op<=15
 ·rw[wY ab ab]at e1 e2 e3 e4;have e1:v/128%32=rd:=e1;have e2:v/32768%32=bL:=e2;have e3:0=bT:=e3;have e4:Dc.iT 2048 (v/1048576)=n:=e4;exact⟨⟨ab,ab,ab,ab,ab,ab,ab,ab⟩,Or.inr (Or.inr (Or.inr (Or.inr (Or.inl ⟨ab,ab,⟨ab,by unfold Dc.iT at e4;split at e4<;>omega,by unfold Dc.iT at e4;split at e4<;>omega⟩⟩))))⟩
 by_cases u16:op<=18
 ·rw[wZ ab ab]at e1 e2 e3 e4;have e1:0=rd:=e1;have e2:v/32768%32=bL:=e2;have e3:v/1048576%32=bT:=e3;have e4:Dc.iT 2048 (v/33554432*32+v/128%32)=n:=e4;exact⟨⟨ab,ab,ab,ab,ab,ab,ab,ab⟩,Or.inr (Or.inr (Or.inr (Or.inr (Or.inr (Or.inl ⟨ab,ab,⟨ab,by unfold Dc.iT at e4;split at e4<;>omega,by unfold Dc.iT at e4;split at e4<;>omega⟩⟩)))))⟩
 by_cases u19:op<=24
 ·rw[xk ab ab]at e1 e2 e3 e4;have e1:v/128%32=rd:=e1;have e2:v/32768%32=bL:=e2;have e3:0=bT:=e3;have e4:Dc.iT 2048 (v/1048576)=n:=e4;exact⟨⟨ab,ab,ab,ab,ab,ab,ab,ab⟩,Or.inr (Or.inr (Or.inr (Or.inr (Or.inr (Or.inr (Or.inl ⟨ab,ab,⟨ab,by unfold Dc.iT at e4;split at e4<;>omega,by unfold Dc.iT at e4;split at e4<;>omega⟩⟩))))))⟩
 by_cases u25:op<=27
 ·rw[xq ab ab]at e1 e2 e3 e4;have e1:v/128%32=rd:=e1;have e2:v/32768%32=bL:=e2;have e3:0=bT:=e3;have e4:v/1048576%32=n:=e4;exact⟨⟨ab,ab,ab,ab,ab,ab,ab,ab⟩,Or.inr (Or.inr (Or.inr (Or.inr (Or.inr (Or.inr (Or.inr (Or.inl ⟨ab,ab,⟨ab,ab,ab⟩⟩)))))))⟩
 by_cases u28:op<=45
 ·rw[xu ab ab]at e1 e2 e3 e4;have e1:v/128%32=rd:=e1;have e2:v/32768%32=bL:=e2;have e3:v/1048576%32=bT:=e3;have e4:0=n:=e4;exact⟨⟨ab,ab,ab,ab,ab,ab,ab,ab⟩,Or.inr (Or.inr (Or.inr (Or.inr (Or.inr (Or.inr (Or.inr (Or.inr (Or.inl ⟨ab,ab,e4.symm⟩))))))))⟩
 by_cases u46:op<=56
 ·rw[xw ab ab]at e1 e2 e3 e4;have e1:v/128%32=rd:=e1;have e2:v/32768%32=bL:=e2;have e3:v/1048576%32=bT:=e3;have e4:v/33554432%4=n:=e4;exact⟨⟨ab,ab,ab,ab,ab,ab,ab,ab⟩,Or.inr (Or.inr (Or.inr (Or.inr (Or.inr (Or.inr (Or.inr (Or.inr (Or.inr (Or.inl ⟨ab,ab,⟨ab,ab,by by_cases h:op=46;exact Or.inr (by have:=h46 h;omega);exact Or.inl h⟩⟩)))))))))⟩
 by_cases u57:op<=57
 ·rw[xx ab ab]at e1 e2 e3 e4;have e1:v/128%32=rd:=e1;have e2:v/32768%32=bL:=e2;have e3:0=bT:=e3;have e4:Dc.iT 2048 (v/1048576)=n:=e4;exact⟨⟨ab,ab,ab,ab,ab,ab,ab,ab⟩,Or.inr (Or.inr (Or.inr (Or.inr (Or.inr (Or.inr (Or.inr (Or.inr (Or.inr (Or.inr (Or.inl ⟨ab,ab,⟨ab,by unfold Dc.iT at e4;split at e4<;>omega,by unfold Dc.iT at e4;split at e4<;>omega⟩⟩))))))))))⟩
 ·rw[JD ab ab]at e1 e2 e3 e4;have e1:0=rd:=e1;have e2:0=bL:=e2;have e3:0=bT:=e3;have e4:0=n:=e4;exact⟨⟨ab,ab,ab,ab,ab,ab,ab,ab⟩,Or.inr (Or.inr (Or.inr (Or.inr (Or.inr (Or.inr (Or.inr (Or.inr (Or.inr (Or.inr (Or.inr (⟨ab,ab,⟨e1.symm,e2.symm,e3.symm,e4.symm⟩⟩)))))))))))⟩
end Dw
namespace Ts
variable[Inhabited Hc.bN]
open Mm Hc Mi Bk
open Hh hiding Rn
variable{x:Int}{xs:List Int}{b:Nat}
theorem JE (h0:0<=x)(h1:x<4294967296)(hx:¬Dc.aO x=0):(ui x).Sound:=by have b:=Hc.yF (Dc.aJ (Dc.aO x)) h0 h1;have hs:Dw.Same (Dc.aO x) (Dc.iF (Dc.aJ (Dc.aO x)) x) (Dc.bZ (Dc.aJ (Dc.aO x)) x) (Dc.bV (Dc.aJ (Dc.aO x)) x) (Dc.bS (Dc.aJ (Dc.aO x)) x) x:=⟨by unfold Dw.fZ;simpa using hx,rfl,rfl,rfl,rfl,rfl⟩;exact Dw.uI (Dw.uJ h0 h1 hs) b.1 b.2
theorem ZA (h0:0<=x)(h1:x<4294967296)(hx:¬Dc.aO x=0):(ui x).Ok:=by have i:=Dv h0 h1 hx;have b:=Hc.yF (Dc.aJ (Dc.aO x)) h0 h1;exact⟨by have:=i.o1;have:=i.o2;unfold WI;omega,by have:=i.d0;have:=i.d1;unfold WI;omega,by have:=i.a0;have:=i.a1;unfold WI;omega,by have:=i.b0;have:=i.b1;unfold WI;omega,b.1,by show Dc.bS (Dc.aJ (Dc.aO x)) x<=2147483647;omega⟩
def Words (xs:List Int):Prop:=∀x∈xs,0<=x/\x<4294967296/\¬Dc.aO x=0
theorem NU (O:w.ownsRow base 59 5 (.slice sa xs.length sc) xs.length (vL xs))(hx:Words xs):Is w sa xs.length (xs.map ui):=by
 refine⟨aq,fun i hi=>?_,fun h0=>?_⟩
 ·obtain⟨x,hm,rfl⟩:=apK.1 hi;obtain⟨a,b,c⟩:=hx x hm;exact ZA a b c
 ·obtain⟨g,c,e,hg,hc⟩:=NB O h0;injection e with e1 _ _;refine⟨g,0,e1,hg,fun j i hj=>?_⟩;rw[apT]at hj;cases hxj:xs[j]? with
  |none=>rw[hxj]at hj;cases hj
  |some x=>
   rw[hxj]at hj;simp at hj;subst hj;rw[apu];have q:=fun t (ht:t<5)=>FZ xs j t x hxj ht
   refine⟨hc _ _ ?_,hc _ _ ?_,hc _ _ ?_,hc _ _ ?_,hc _ _ ?_⟩
   ·have:=q 0 ab;rwa[aqt]at this
   ·exact q 1 ab
   ·exact q 2 ab
   ·exact q 3 ab
   ·exact q 4 ab
theorem xy (l:List UInt8)(pc:Int):Words (blk l pc 16 0):=fun x hx=>by obtain⟨j,hj⟩:=aqe.1 hx;obtain⟨a,b,_⟩:=(fM l pc 16 0).2 j (apj.1 hj).1;rw[apu]at a b;rw[b]at hj;injection hj with hj;subst hj;have:=W.aN l 13 (at4 pc j);exact⟨this.1,this.2,(mV a).2⟩
theorem NV (pc:Int)(sc:Nat)(O:w.ownsRow b 59 5 (.slice sa xs.length sc) xs.length (vL xs))(hx:Words xs)(T:Dw.nK w)(Q:Tq w)(hn:xs.length<=16):Calls prog 110 #[.agg #[.int .u32 pc,.slice sa xs.length sc]] w fun e w'=>∃ca cn cc,e=.returned (.slice ca cn cc)/\Ct w' ca cn (aS pc (xs.map ui) 0)/\Gr w w':=
 TZ pc sc (NU O hx) T Q hn fun i hi=>by
  obtain⟨x,hm,rfl⟩:=apK.1 hi;obtain⟨a,b,c⟩:=hx x hm;exact JE a b c
end Ts
end Go.Proofs.YtiadhbmnfjfioaaGreatDoor
