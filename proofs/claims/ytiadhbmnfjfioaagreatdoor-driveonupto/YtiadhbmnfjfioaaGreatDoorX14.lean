/- ours -/
import Derived.Test.YtiadhbmnfjfioaaGreatDoorX13
import Derived.Test.YtiadhbmnfjfioaaGreatDoorX12
set_option linter.unusedVariables false
set_option linter.unusedSimpArgs false
set_option maxHeartbeats 8000000
set_option maxRecDepth 100000
set_option linter.unusedSectionVars false
namespace Go.Proofs.YtiadhbmnfjfioaaGreatDoor
open Go.Proofs.Tryz hiding d1 d2 parts
open Go.ChangeShapes Go.WideShapes Go.ChangeAt Go.RowKit
namespace Hf
open Mm Hh

theorem A9 {W:World}{g t:Nat}{z0 z1 z2 z3 z4:Value}(h:W.heap[g]?=some (.cells #[z0,z1,z2,z3,z4] t (0,0)))(a b c d e:Value)(o:Obj):((((((W.setCell ⟨g,0,none⟩ a).setCell ⟨g,1,none⟩ b).setCell ⟨g,2,none⟩ c).setCell ⟨g,3,none⟩ d).setCell ⟨g,4,none⟩ e).alloc o).heap[g]?=some (.cells #[a,b,c,d,e] t (0,0)):=by have h0:=aul W g 0 _ _ a h;have h1:=aul _ g 1 _ _ b h0;have h2:=aul _ g 2 _ _ c h1;have h3:=aul _ g 3 _ _ d h2;have h4:=aul _ g 4 _ _ e h3;exact(((Gr.refl _).alloc o).block _ (gs h4).1).trans h4
theorem mZ (x0 x1 x2 x3 x4:Int):(#[.int .i64 x0,.int .i64 x1,.int .i64 x2,.int .i64 x3,.int .i32 x4]:Array Value).all (·.oneCell')=true:=by refine auE (cs:=[.int .i64 x0,.int .i64 x1,.int .i64 x2,.int .i64 x3,.int .i32 x4]) ?_;intro u hu;simp only[apx,apB,auw]at hu;rcases hu with rfl|rfl|rfl|rfl|rfl<;>rfl
theorem iI:(prog.info? 59).map (·.size)=some 5:=by kernel_rfl
theorem gm {P:Program}{fn:Func}{p t:Tmp}{ty:TypeId}(h:fn.results=#[.cell p ty,.tmp t])(tmps:Array Value)(w:World)(g:Nat)(tt:TypeId)(cs:Array Value)(fr:Nat×Nat)(d:TypeDesc)
  (v:Value)(hp:tmps.getD p undef=.pointer (some ⟨g,0,none⟩))(hv:tmps.getD t undef=v)(hg:w.heap[g]?=some (.cells cs tt fr))
  (hu:P.underlying ty=some d)(hd:(match d with|.struct _|.array _ _=>true|_=>false)=true)(hi:(P.info? ty).map (·.size)=some cs.size):
  (results fn tmps).run P w=.ok (.tuple #[.agg cs,v]) w:=by
 subst hv;have hp':tmps[p]?.getD undef=.pointer (some ⟨g,0,none⟩):=by simpa using hp
 simp[results,h,hp',asAddr,au4 w g tt ty cs fr d hg hu hd hi]
theorem ng {w:World}{ao:Option Addr}{n:Nat}(cap:Nat){l:List UInt8}(pc:Int)(M:Mem w ao n l)(T:Dw.nK w)(hn:n<=140737488351232)(h0:0<=pc)(h1:pc<4294967296):Calls prog 29 #[.slice ao n cap,.int .u32 pc] w fun e w'=>e=.returned (.tuple #[Dw.kP (aN l 13 pc),.int .i64 (Bk.jR l pc)])/\Gr w w':=by
 have L:Hid (∀W:World,Gr w W->Calls prog 64 #[.slice ao n cap,.int .i64 13,.int .u32 pc] W fun e w'=>e=.returned (.tuple #[.int .u32 (aN l 13 pc),.bool (bM l 13 pc)])/\w'=W):=fun W G=>Mm.dY cap 13 pc (M.of G) hn h0 h1
 have wx:=W.aN l 13 pc;have HT:Hid (∀W:World,Gr w W->Dw.nK W):=fun W G=>⟨fun i v e=>(G.cell _ (by exact Dw.lt_of_cell (T.shapes i v e))).trans (T.shapes i v e),fun i v e=>(G.cell _ (by exact Dw.lt_of_cell (T.uppers i v e))).trans (T.uppers i v e)⟩
 have D:Hid (∀W:World,Gr w W->Calls prog 14 #[.int .u32 (aN l 13 pc)] W fun e w'=>e=.returned (.tuple #[Dw.kP (aN l 13 pc),.bool (Dw.fZ (aN l 13 pc))])/\Gr W w'):=fun W G=>(Dw.jh _ W (HT.out W G) wx.1 wx.2).mono fun e w' h=>⟨h.1,h.2.1⟩
 have E1:Hid (bM l 13 pc=false->aN l 13 pc=0):=Bk.YB;have E2:Hid (Bk.jR l pc=if bM l 13 pc=true then(if Dc.aO (aN l 13 pc)=0 then 2 else 0)else 1):=rfl;generalize aN l 13 pc=x at *
 generalize bM l 13 pc=B at *
 generalize Bk.jR l pc=c at *
 clear M T HT wx;cases B with
 |false=>
  have e1:=E1.out rfl;have e2:=E2.out;subst e1 e2;have e3:=(Dw.j5 Bk.agl).1;rw[e3];clear E1 E2 D e3;unfold Dw.df;go_enter func29,ntmps29;go_wp2_with fail;refine(L.out _ ((Gr.refl _).alloc _)).mono ?_;rintro e w1 ⟨rfl,rfl⟩;clear L;go_wp2_with (refine auf rfl 59 _ _ rfl w.heap.size #[.int .i64 0,.int .i64 0,.int .i64 0,.int .i64 0,.int .i32 0] rfl rfl 59 _ (at5 w _) iI rfl rfl ?_);refine auc (v:=.tuple #[.agg #[.int .i64 0,.int .i64 0,.int .i64 0,.int .i64 0,.int .i32 0],.int .i64 1]) (gm results29 _ _ _ _ _ (0,0) _ _ rfl rfl (at5 w _) underlying59 rfl iI) rfl ⟨rfl,?_⟩;exact(Gr.refl _).alloc _
 |true=>
  by_cases hd:Dc.aO x=0
  ·have e2:c=2:=by rw[E2.out,at7 rfl,at7 hd]
   obtain⟨d1,d2⟩:=Dw.j5 hd;rw[d1,d2]at D;rw[d1];unfold Dw.df at D ⊢;subst e2;clear E1 E2 d1 d2 hd;go_enter func29,ntmps29;go_wp2_with fail;refine(L.out _ ((Gr.refl _).alloc _)).mono ?_;rintro e w1 ⟨rfl,rfl⟩;clear L;go_wp2_with fail;refine(D.out _ ((Gr.refl _).alloc _)).mono ?_;rintro e w1 ⟨rfl,G1⟩;have HB:=kH ((G1.block _ (by simp)).trans (at5 w _));have aU:=kH (((Gr.refl _).alloc _).trans G1);have hlt:=(apk.1 HB.out).1;have r0:w1.cell? ⟨w.heap.size,0,none⟩=some (.int .i64 0):=atZ _ _ _ _ _ _ HB.out;have r1:w1.cell? ⟨w.heap.size,1,none⟩=some (.int .i64 0):=atZ _ _ _ _ _ _ HB.out;have r2:w1.cell? ⟨w.heap.size,2,none⟩=some (.int .i64 0):=atZ _ _ _ _ _ _ HB.out;have r3:w1.cell? ⟨w.heap.size,3,none⟩=some (.int .i64 0):=atZ _ _ _ _ _ _ HB.out;have r4:w1.cell? ⟨w.heap.size,4,none⟩=some (.int .i32 0):=atZ _ _ _ _ _ _ HB.out;have f3:∀j,w1.frozen? ⟨w.heap.size,j,none⟩=false:=fun j=>aus _ _ _ _ _ HB.out
   clear G1 D;go_wp2_with fail;refine auc (v:=.tuple #[.agg #[.int .i64 0,.int .i64 0,.int .i64 0,.int .i64 0,.int .i32 0],.int .i64 2]) (gm results29 _ _ _ _ _ (0,0) _ _ rfl rfl (A9 HB.out _ _ _ _ _ _) underlying59 rfl iI) rfl ⟨rfl,?_⟩;exact(((((aU.out.setCell (by simp) _).setCell (by simp) _).setCell (by simp) _).setCell (by simp) _).setCell (by simp) _).alloc _
  ·have e2:c=0:=by rw[E2.out,at7 rfl,at6 hd]
   have d2:Dw.fZ x=true:=by unfold Dw.fZ;simp[hd]
   rw[d2]at D;unfold Dw.kP Dw.df at D ⊢;subst e2;clear E1 E2 d2 hd;generalize Dc.iF (Dc.aJ (Dc.aO x)) x=x1 at *
   generalize Dc.bZ (Dc.aJ (Dc.aO x)) x=x2 at *
   generalize Dc.bV (Dc.aJ (Dc.aO x)) x=x3 at *
   generalize Dc.bS (Dc.aJ (Dc.aO x)) x=x4 at *
   generalize Dc.aO x=x0 at *
   go_enter func29,ntmps29;go_wp2_with fail;refine(L.out _ ((Gr.refl _).alloc _)).mono ?_;rintro e w1 ⟨rfl,rfl⟩;clear L;go_wp2_with fail;refine(D.out _ ((Gr.refl _).alloc _)).mono ?_;rintro e w1 ⟨rfl,G1⟩;have HB:=kH ((G1.block _ (by simp)).trans (at5 w _));have aU:=kH (((Gr.refl _).alloc _).trans G1);have hlt:=(apk.1 HB.out).1;have r0:w1.cell? ⟨w.heap.size,0,none⟩=some (.int .i64 0):=atZ _ _ _ _ _ _ HB.out;have r1:w1.cell? ⟨w.heap.size,1,none⟩=some (.int .i64 0):=atZ _ _ _ _ _ _ HB.out;have r2:w1.cell? ⟨w.heap.size,2,none⟩=some (.int .i64 0):=atZ _ _ _ _ _ _ HB.out;have r3:w1.cell? ⟨w.heap.size,3,none⟩=some (.int .i64 0):=atZ _ _ _ _ _ _ HB.out;have r4:w1.cell? ⟨w.heap.size,4,none⟩=some (.int .i32 0):=atZ _ _ _ _ _ _ HB.out;have f3:∀j,w1.frozen? ⟨w.heap.size,j,none⟩=false:=fun j=>aus _ _ _ _ _ HB.out
   clear G1 D;go_wp2_with fail;refine auc (v:=.tuple #[.agg #[.int .i64 x0,.int .i64 x1,.int .i64 x2,.int .i64 x3,.int .i32 x4],.int .i64 0]) (gm results29 _ _ _ _ _ (0,0) _ _ rfl rfl (A9 HB.out _ _ _ _ _ _) underlying59 rfl iI) rfl ⟨rfl,?_⟩;exact(((((aU.out.setCell (by simp) _).setCell (by simp) _).setCell (by simp) _).setCell (by simp) _).setCell (by simp) _).alloc _
end Hf
namespace Hc
variable [Inhabited Go.Proofs.YtiadhbmnfjfioaaGreatDoor.Hc.bN]
open Mm Hh

variable {w w' :World} {base g :Nat} {h :Hv} {l :List UInt8} {os :List Int} {ss :List (Int × Int)}
structure TT (w:World) (base:Nat):Prop where
 tab:Dw.nK w
 tb:Tb w base
 b1:0<base
 b2:3<base
theorem TT.of (T:TT w base)(h:Fr base w w'):TT w' base:=⟨⟨fun i n e=>(auJ h.below (by exact T.b1)).trans (T.tab.shapes i n e),fun i n e=>(auJ h.below (by exact T.b2)).trans (T.tab.uppers i n e)⟩,T.tb.of h,T.b1,T.b2⟩
theorem wO (f x:Int):0<=Dc.iF f x/\Dc.iF f x<32:=by unfold Dc.iF;split<;>omega
theorem Nl (f x:Int):0<=Dc.bZ f x/\Dc.bZ f x<32:=by unfold Dc.bZ;split<;>omega
theorem Np (f x:Int):0<=Dc.bV f x/\Dc.bV f x<32:=by unfold Dc.bV;split<;>omega
theorem yF {v:Int}(f:Int)(h0:0<=v)(h1:v<4294967296) : -2147483648<=Dc.bS f v/\Dc.bS f v<2147483648:=by
 unfold Dc.bS Wd.sg Dc.iT;repeat' split
 all_goals omega
theorem bu {P:Program}{md:Region.Mode}{ops:Array Oper}{Q:Exit→Act→World→Prop}{S:World→Prop}{fuel i:Nat}{listed:Array Bool}{o:Oper}{a:Act}(hr:Region.ready md ops listed=[i])(hoi:ops[i]?=some o)(hg:o.guard=none)(ty:TypeId)(x y:Operand)(ho:o.op=.store ty x y)(g:Nat)(cells:Array Value)(hx:a.eval x=.pointer (some ⟨g,0,none⟩))(hy:a.eval y=.agg cells)(t:TypeId)(old:Array Value)(hb:w.heap[g]?=some (.cells old t (0,0)))(hi:(P.info? ty).map (·.size)=some cells.size)(hold:old.size=cells.size)(h1:cells.all (·.oneCell')=true)(hS:S (w.setRow g cells))(h:wpAnyH P md ops Q S fuel (listed.setIfInBounds i true) (a.put o.dst undef) (w.setRow g cells)):wpAnyH P md ops Q S (fuel+1) listed a w:=aue hr (by simp) (aua hoi (fun K hK=>gP hg ty x y ho g cells hx hy t old hb hi hold h1 (hK.out _ _ hS fun _=>h)) aud)
theorem aT {p:World->Prop}{x:World}(F:World->Prop)(hF:F x)(h:∀y,F y->p y):p x:=h x hF
theorem cu (g:Gr w w'){k:Nat}{x:Obj}(h:w.heap[k]?=some x):w'.heap[k]?=some x:=by rw[au1 g k (gs h).1];exact h
theorem Y6 (hc:¬Bk.jR l h.pc=0):dV h l=⟨h.trap (Bk.jR l h.pc),l,[],[]⟩:=by
 unfold dV Bk.jR at *
 by_cases ok:bM l 13 h.pc=true
 ·rw[at7 ok]at hc ⊢;rw[at7 ok];by_cases hd:Dc.aO (aN l 13 h.pc)=0
  ·rw[at7 hd];unfold oW;rw[at7 hd]
  ·rw[at6 hd]at hc;exact absurd rfl hc
 ·rw[at6 ok,at6 ok]
theorem Ty (hc:Bk.jR l h.pc=0):dV h l=ins h l (Dc.aO (aN l 13 h.pc)) (Dc.iF (Dc.aJ (Dc.aO (aN l 13 h.pc))) (aN l 13 h.pc)) (Dc.bZ (Dc.aJ (Dc.aO (aN l 13 h.pc))) (aN l 13 h.pc)) (Dc.bV (Dc.aJ (Dc.aO (aN l 13 h.pc))) (aN l 13 h.pc)) (Dc.bS (Dc.aJ (Dc.aO (aN l 13 h.pc))) (aN l 13 h.pc)):=by
 unfold dV;unfold Bk.jR at hc;by_cases ok:bM l 13 h.pc=true
 ·rw[at7 ok]at hc ⊢;by_cases hd:Dc.aO (aN l 13 h.pc)=0
  ·rw[at7 hd]at hc;omega
  ·unfold oW;rw[at6 hd]
 ·rw[at6 ok]at hc;omega
theorem Ba {w:World}{base g:Nat}{h:Hv}{l:List UInt8}{os:List Int}{ss:List (Int×Int)}(I:In w base g h l os ss)(T:TT w base)(hl:l.length≤140737488351232)(DO:Bk.jR l h.pc=0->∀W,In W base g h l os ss->Tb W base->Calls prog 135 #[.pointer (some ⟨g,0,none⟩),Dw.kP (aN l 13 h.pc)] W fun e w'=>e=.returned (.tuple #[])/\In w' base g (dV h l).h (dV h l).m (os++(dV h l).out) (ss++(dV h l).av)/\Fr base W w'):Calls prog 107 #[.pointer (some ⟨g,0,none⟩)] w fun e w'=>e=.returned (.tuple #[])/\In w' base g (dV h l).h (dV h l).m (os++(dV h l).out) (ss++(dV h l).av)/\Fr base w w':=by
 have Tr:Hid (∀W,In W base g h l os ss->∀c,Calls prog 134 #[.pointer (some ⟨g,0,none⟩),.int .i64 c] W fun e w'=>e=.returned (.tuple #[])/\In w' base g (h.trap c) l os ss/\Ch g W w'):=fun W I c=>dK I c
 have HD:Hid _:=DO;clear DO;have HI:=kH I;have HT:=kH T;obtain⟨c0,rfl,J⟩:=I;obtain⟨ao,cap,hm,M⟩:=J.mem.mem;have k37:w.cell? ⟨g,37,none⟩=some (.slice ao l.length cap):=(J.dJ 0).trans (by rw[hm];rfl);have Nc:=(J.hcell (by omega)).trans (aW J.ok 0);have hbl:=J.ay;have hgl:=J.lt;have F:Hid (∀W:World,Gr w W->_):=fun W G=>Hf.ng cap c0.h.pc (M.of G) (T.of (Fr.bD G hbl)).tab hl J.ok.nH J.ok.jV
 have kv:Hid (∀W:World,Gr w W->W.cell? ⟨g,37,none⟩=some (.slice ao l.length cap)/\W.cell? ⟨g,32,none⟩=some (.int .u32 c0.h.pc)):=fun W G=>⟨(G.cell _ (by exact hgl)).trans k37,(G.cell _ (by exact hgl)).trans Nc⟩
 have HN:Hid (¬Bk.jR l c0.h.pc=0->dV c0.h l=⟨c0.h.trap (Bk.jR l c0.h.pc),l,[],[]⟩):=Y6;unfold Dw.kP Dw.df at F HD;generalize aN l 13 c0.h.pc=x at *
 generalize dV c0.h l=Z at *
 clear J M hm T;generalize Dc.iF (Dc.aJ (Dc.aO x)) x=x1 at *
 generalize Dc.bZ (Dc.aJ (Dc.aO x)) x=x2 at *
 generalize Dc.bV (Dc.aJ (Dc.aO x)) x=x3 at *
 generalize Dc.bS (Dc.aJ (Dc.aO x)) x=x4 at *
 generalize Dc.aO x=x0 at *
 generalize Bk.jR l c0.h.pc=c at *
 generalize c0.h.pc=pc at *
 generalize c0.h=h at *
 go_enter func107,ntmps107;go_wp2_with fail;refine aut (S:=fun W=>W.cell? ⟨g,37,none⟩=some (.slice ao l.length cap)/\W.cell? ⟨g,32,none⟩=some (.int .u32 pc)) (by kernel_rfl) ?_ (fun hHeld=>?_)
 ·exact kv.out _ (Gr.refl _).drew
 have aY:=kH hHeld;clear hHeld;refine tK 0 (.pointer (some ⟨g,0,none⟩)) aY.out ?_;refine tK 1 (.pointer (some ⟨g,0,none⟩)) aY.out ?_;refine tK 2 (.pointer (some ⟨g,37,none⟩)) aY.out ?_;refine tK 3 (.slice ao l.length cap) aY.out ?_;refine tK 4 (.pointer (some ⟨g,0,none⟩)) aY.out ?_;refine tK 5 (.pointer (some ⟨g,0,none⟩)) aY.out ?_;refine tK 6 (.pointer (some ⟨g,0,none⟩)) aY.out ?_;refine tK 7 (.pointer (some ⟨g,32,none⟩)) aY.out ?_;refine tK 8 (.int .u32 pc) aY.out ?_;refine aue (rs:=[9,13]) (by kernel_rfl) (by simp) ?_;refine aua rfl (fun K hK=>?cf) (aua rfl (fun K hK=>?af) aud)
 case cf=>
  go_simp;refine(F.out _ (Gr.refl _).drew).mono ?_;rintro e wd ⟨rfl,Gd⟩;have gp:Hid (Gr w wd):=(Gr.refl _).drew.trans Gd;clear Gd;have fO:Hid _:=kv.out _ gp.out;refine hK.out _ _ fO.out (fun hx=>?_);clear hK K hx;refine tK 10 (.tuple #[.agg #[.int .i64 x0,.int .i64 x1,.int .i64 x2,.int .i64 x3,.int .i32 x4],.int .i64 c]) fO.out ?_;refine tK 11 (.agg #[.int .i64 x0,.int .i64 x1,.int .i64 x2,.int .i64 x3,.int .i32 x4]) fO.out ?_;refine tK 12 (.int .i64 c) fO.out ?_;refine aue (rs:=[13]) (by kernel_rfl) (by simp) ?_;refine aua rfl (fun K hK=>?_) aud;go_simp;refine hK.out _ _ (kv.out _ (gp.out.alloc _)) (fun hx=>?_);clear hK K hx;refine bu (i:=14) (by kernel_rfl) rfl rfl 59 (.tmp 2) (.tmp 15) rfl wd.heap.size #[.int .i64 x0,.int .i64 x1,.int .i64 x2,.int .i64 x3,.int .i32 x4] (by simp[Act.eval]) (by simp[Act.eval]) 59 _ (at5 wd _) Hf.iI rfl (Hf.mZ _ _ _ _ _) ?_ ?_
  ·exact kv.out _ (ag (gp.out.alloc _) gp.out.size _)
  refine tK 15 (.int .i64 c) (kv.out _ (ag (gp.out.alloc _) gp.out.size _)) ?_;refine auy (by kernel_rfl) ?_ _;refine aT (fun W=>W.heap[wd.heap.size]?=some (.cells #[.int .i64 x0,.int .i64 x1,.int .i64 x2,.int .i64 x3,.int .i32 x4] 59 (0,0))/\Gr w W) ?_ ?_
  ·exact⟨aup _ _ _ _ _ (0,0) (at5 wd _),ag (gp.out.alloc _) gp.out.size _⟩
  clear gp fO;generalize wd.heap.size=gi at *
  clear wd;clear kv aY F;rintro wD ⟨BD,GD⟩;have q0:wD.cell? ⟨gi,0,none⟩=some (.int .i64 x0):=atZ _ _ _ _ _ _ BD;have q1:wD.cell? ⟨gi,1,none⟩=some (.int .i64 x1):=atZ _ _ _ _ _ _ BD;have q2:wD.cell? ⟨gi,2,none⟩=some (.int .i64 x2):=atZ _ _ _ _ _ _ BD;have q3:wD.cell? ⟨gi,3,none⟩=some (.int .i64 x3):=atZ _ _ _ _ _ _ BD;have q4:wD.cell? ⟨gi,4,none⟩=some (.int .i32 x4):=atZ _ _ _ _ _ _ BD;have Nq:Hid (In wD base g h l os ss):=HI.out.of GD;have Nr:Hid (Fr base w wD):=Fr.bD GD hbl;have Y7:Hid (TT wD base):=HT.out.of Nr.out;clear BD GD HI HT k37 Nc;by_cases hc:c=0
  ·have Do:Hid (∀W,In W base g h l os ss->Tb W base->Calls prog 135 #[.pointer (some ⟨g,0,none⟩),.agg #[.int .i64 x0,.int .i64 x1,.int .i64 x2,.int .i64 x3,.int .i32 x4]] W fun e w'=>e=.returned (.tuple #[])/\In w' base g Z.h Z.m (os++Z.out) (ss++Z.av)/\Fr base W w'):=HD.out hc;subst hc;clear HD HN Tr;go_wp2_with fail;refine(Do.out _ Nq.out Y7.out.tb).mono ?_;rintro e w2 ⟨rfl,I2,C2⟩;have HI2:Hid (In w2 base g Z.h Z.m (os++Z.out) (ss++Z.av)):=I2;have pX:Hid (Fr base w w2):=Nr.out.trans C2;clear I2 C2 Do Nq Nr Y7;go_wp2_with fail;go_end0;exact⟨rfl,HI2.out,pX.out⟩
  ·have hb:(c ==0)=false:=by simpa using hc
   have HZ:Hid (Z=⟨h.trap c,l,[],[]⟩):=HN.out hc;clear HD HN hc;go_wp2_with fail;refine(Tr.out _ Nq.out c).mono ?_;rintro e w2 ⟨rfl,I2,C2⟩;have HI2:Hid (In w2 base g Z.h Z.m (os++Z.out) (ss++Z.av)):=by unfold Hid;rw[HZ.out,apz,apz];exact I2
   have pX:Hid (Fr base w w2):=Nr.out.trans (Nq.out.below C2);clear I2 C2 Tr Nq Nr Y7 HZ;go_wp2_with fail;refine auc (auV results107 _ _ _) rfl ?_;exact⟨rfl,HI2.out,pX.out⟩
 case af=>
  go_simp;refine hK.out _ _ (kv.out _ ((Gr.refl _).alloc _).drew) (fun hx=>?_);clear hK K hx;refine aue (rs:=[9]) (by kernel_rfl) (by simp) ?_;refine aua rfl (fun K hK=>?_) aud;go_simp;refine(F.out _ ((Gr.refl _).alloc _).drew).mono ?_;rintro e wd ⟨rfl,Gd⟩;have sM:Hid (wd.heap[w.heap.size]?=some (.cells _ 59 (0,0))):=cu Gd (cu (Gr.refl _).drew (at5 w _));have gp:Hid (Gr w wd):=Gr.trans (Gr.drew ((Gr.refl w).alloc _)) Gd;clear Gd;have fO:Hid _:=kv.out _ gp.out;refine hK.out _ _ fO.out (fun hx=>?_);clear hK K hx;refine tK 10 (.tuple #[.agg #[.int .i64 x0,.int .i64 x1,.int .i64 x2,.int .i64 x3,.int .i32 x4],.int .i64 c]) fO.out ?_;refine tK 11 (.agg #[.int .i64 x0,.int .i64 x1,.int .i64 x2,.int .i64 x3,.int .i32 x4]) fO.out ?_;refine tK 12 (.int .i64 c) fO.out ?_;refine bu (i:=14) (by kernel_rfl) rfl rfl 59 (.tmp 2) (.tmp 15) rfl w.heap.size #[.int .i64 x0,.int .i64 x1,.int .i64 x2,.int .i64 x3,.int .i32 x4] (by simp[Act.eval]) (by simp[Act.eval]) 59 _ sM.out Hf.iI rfl (Hf.mZ _ _ _ _ _) ?_ ?_
  ·exact kv.out _ (ag gp.out (apn _) _)
  refine tK 15 (.int .i64 c) (kv.out _ (ag gp.out (apn _) _)) ?_;refine auy (by kernel_rfl) ?_ _;refine aT (fun W=>W.heap[w.heap.size]?=some (.cells #[.int .i64 x0,.int .i64 x1,.int .i64 x2,.int .i64 x3,.int .i32 x4] 59 (0,0))/\Gr w W) ?_ ?_
  ·exact⟨aup _ _ _ _ _ (0,0) sM.out,ag gp.out (apn _) _⟩
  clear gp sM fO;obtain⟨gi,hgi⟩:∃g:Nat,g=w.heap.size:=⟨_,rfl⟩;rw[<-hgi];clear hgi wd;clear kv aY F;rintro wD ⟨BD,GD⟩;have q0:wD.cell? ⟨gi,0,none⟩=some (.int .i64 x0):=atZ _ _ _ _ _ _ BD;have q1:wD.cell? ⟨gi,1,none⟩=some (.int .i64 x1):=atZ _ _ _ _ _ _ BD;have q2:wD.cell? ⟨gi,2,none⟩=some (.int .i64 x2):=atZ _ _ _ _ _ _ BD;have q3:wD.cell? ⟨gi,3,none⟩=some (.int .i64 x3):=atZ _ _ _ _ _ _ BD;have q4:wD.cell? ⟨gi,4,none⟩=some (.int .i32 x4):=atZ _ _ _ _ _ _ BD;have Nq:Hid (In wD base g h l os ss):=HI.out.of GD;have Nr:Hid (Fr base w wD):=Fr.bD GD hbl;have Y7:Hid (TT wD base):=HT.out.of Nr.out;clear BD GD HI HT k37 Nc;by_cases hc:c=0
  ·have Do:Hid (∀W,In W base g h l os ss->Tb W base->Calls prog 135 #[.pointer (some ⟨g,0,none⟩),.agg #[.int .i64 x0,.int .i64 x1,.int .i64 x2,.int .i64 x3,.int .i32 x4]] W fun e w'=>e=.returned (.tuple #[])/\In w' base g Z.h Z.m (os++Z.out) (ss++Z.av)/\Fr base W w'):=HD.out hc;subst hc;clear HD HN Tr;go_wp2_with fail;refine(Do.out _ Nq.out Y7.out.tb).mono ?_;rintro e w2 ⟨rfl,I2,C2⟩;have HI2:Hid (In w2 base g Z.h Z.m (os++Z.out) (ss++Z.av)):=I2;have pX:Hid (Fr base w w2):=Nr.out.trans C2;clear I2 C2 Do Nq Nr Y7;go_wp2_with fail;go_end0;exact⟨rfl,HI2.out,pX.out⟩
  ·have hb:(c ==0)=false:=by simpa using hc
   have HZ:Hid (Z=⟨h.trap c,l,[],[]⟩):=HN.out hc;clear HD HN hc;go_wp2_with fail;refine(Tr.out _ Nq.out c).mono ?_;rintro e w2 ⟨rfl,I2,C2⟩;have HI2:Hid (In w2 base g Z.h Z.m (os++Z.out) (ss++Z.av)):=by unfold Hid;rw[HZ.out,apz,apz];exact I2
   have pX:Hid (Fr base w w2):=Nr.out.trans (Nq.out.below C2);clear I2 C2 Tr Nq Nr Y7 HZ;go_wp2_with fail;refine auc (auV results107 _ _ _) rfl ?_;exact⟨rfl,HI2.out,pX.out⟩
theorem Nt (I:In w base g h l os ss)(T:TT w base)(hl:l.length<=140737488351232)(hss:ss.length<=1000000)(hos:os.length<=1000000):Calls prog 107 #[.pointer (some ⟨g,0,none⟩)] w fun e w'=>e=.returned (.tuple #[])/\In w' base g (dV h l).h (dV h l).m (os++(dV h l).out) (ss++(dV h l).av)/\Fr base w w':=
 Ba I T hl fun hc V I1 T1=>by
  have HW:=W.aN l 13 h.pc;rw[Ty hc];have ib:=yF (Dc.aJ (Dc.aO (aN l 13 h.pc))) HW.1 HW.2;exact DT I1 T1 hl hss hos _ _ _ _ _ (wO _ _).1 (wO _ _).2 (Nl _ _).1 (Nl _ _).2 (Np _ _).1 (Np _ _).2 ib.1 (by omega)
theorem Jk (I:In w base g h l os ss)(T:TT w base)(hl:l.length<=140737488351232)(hf:¬Bk.jR l h.pc=0):Calls prog 107 #[.pointer (some ⟨g,0,none⟩)] w fun e w'=>e=.returned (.tuple #[])/\In w' base g (dV h l).h (dV h l).m (os++(dV h l).out) (ss++(dV h l).av)/\Fr base w w':=Ba I T hl fun hc=>absurd hc hf
end Hc
namespace Mm

end Mm
namespace Hc
variable [Inhabited Go.Proofs.YtiadhbmnfjfioaaGreatDoor.Hc.bN]
open Mm Hh

end Hc
namespace Hc
variable [Inhabited Go.Proofs.YtiadhbmnfjfioaaGreatDoor.Hc.bN]
open Mm Hh

def DU:List Int:=[0,0,0,0,0,0,0,0,0,0,0,0,0,0,0,0,1,2,4]
def kR:List Int:=[0,0,0,0,0,0,0,0,0,0,0,0,0,0,0,0,0,0,0,28,31,32,33,36,37,30,34,35]
theorem Y8 : prog.globalNamed "ferrybridge/hart.sizes" = some 13 := by kernel_rfl
theorem DW : prog.globalNamed "ferrybridge/hart.operations" = some 10 := by kernel_rfl
theorem Y9:(prog.globals[13]?).map (·.type)=some 286:=by kernel_rfl
theorem DX:(prog.globals[10]?).map (·.type)=some 258:=by kernel_rfl
theorem Jl:(List.range 19).map (Dw.look prog 3 286 (Rows.laid_ferrybridge_hart_sizes (H:=Unit)))=DU.map fun n=>some (.int .u32 n):=by kernel_rfl
theorem Jm:(List.range 28).map (Dw.look prog 3 258 (Rows.laid_ferrybridge_hart_operations (H:=Unit)))=kR.map fun n=>some (.int .i64 n):=by kernel_rfl
theorem TT.grow {w w':World}(T:TT w w.heap.size)(G:Gr w w'):TT w' w'.heap.size:=by have h:=T.of (Fr.bD G (apn _));have s:=G.size;exact⟨h.tab,⟨h.tb.sizes,h.tb.opers,apq h.tb.b1 s,apq h.tb.b2 s⟩,apq h.b1 s,apq h.b2 s⟩
end Hc
namespace Mc
variable [Inhabited Go.Proofs.YtiadhbmnfjfioaaGreatDoor.Hc.bN]
open Mm Hh Hc

structure Qv where
 h:Hv
 m:Value
 out:Value
 n:Int
 av:Value
def qA (d:Qv):Array Value:=(hL d.h++[d.m,d.out,.int .i64 d.n,d.av]).toArray
theorem fG {d:Qv}(o:d.h.Ok):(qA d).size=41:=by simp[qA,aD o]
theorem Nv {d:Qv}(o:d.h.Ok){i:Nat}(hi:i<37):(qA d)[i]?=(hL d.h)[i]?:=by have:=aD o;unfold qA;rw[apm,apA (by omega)]
theorem jl {d:Qv}(o:d.h.Ok)(j:Nat):(qA d)[37+j]?=[d.m,d.out,.int .i64 d.n,d.av][j]?:=by unfold qA;rw[apm,apv (by simp[aD o])];simp[aD o]
theorem lW {d:Qv}(h1:d.m.oneCell'=true)(h2:d.out.oneCell'=true)(h3:d.av.oneCell'=true):(qA d).all (·.oneCell')=true:=by refine auE ?_;intro v hv;simp only[hL,apR,apK,apx,apB,auw]at hv;rcases hv with(⟨n,_,rfl⟩|rfl|rfl|rfl|rfl|rfl)|rfl|rfl|rfl|rfl<;>first|rfl|assumption
theorem iQ:(prog.info? 142).map (·.size)=some 41:=by kernel_rfl
theorem zQ:(prog.info? 142).bind (·.zero)=some (.agg (qA ⟨h0,ax,ax,0,ax⟩)):=by kernel_rfl
theorem lX (off:Nat)(v:Value)(cs:Array Value):((#[v]:Array Value).zipIdx.foldl (fun cs (x:Value×Nat)=>cs.setIfInBounds (off+x.2) x.1) cs)=cs.setIfInBounds off v:=rfl
theorem Jn {h:Hv}(o:h.Ok)(d:Qv)(od:d.h.Ok):((hA h).zipIdx.foldl (fun cs (x:Value×Nat)=>cs.setIfInBounds (0+x.2) x.1) (qA d))=qA { d with h:=h }:=by
 have a1:=iA 0 (hA h) (qA d);have s1:=jC o;have s2:=fG od;apply aqC;intro k;rw[a1.2 k];by_cases hk:k<37
 ·rw[dU,Nv (d:={ d with h:=h }) o hk];simp[hA]
 ·rw[ak];obtain⟨j,rfl⟩:∃j,k=37+j:=⟨k-37,by omega⟩;rw[jl od,jl (d:={ d with h:=h }) o]
theorem DY {P:Program}{t:TypeId}{it:TypeInfo}{z:Value}{fs:Array Field}{ps:List (Nat×Nat)}(hi:P.info? t=some it)(hu:P.underlying t=some (.struct fs))(hz:it.zero=some z)(hp:fs.toList.mapM (fun f=>(P.info? f.type).map fun i=>(f.offset,i.size))=some ps){n:Nat}(p0:ps.toArray[0]?=some (0,n))(p1:ps.toArray[1]?=some (n,1))(p2:ps.toArray[2]?=some (n+1,1))(p3:ps.toArray[3]?=some (n+2,1))(p4:ps.toArray[4]?=some (n+3,1))(A:Array Value)(hA:A.size=n)(v1 v2 v3 v4:Value)(h1:v1.cells=#[v1])(h2:v2.cells=#[v2])(h3:v3.cells=#[v3])(h4:v4.cells=#[v4])(hs:z.cells.size=n+4):P.built t [(0,.agg A),(1,v1),(2,v2),(3,v3),(4,v4)]=some ((((((A.zipIdx.foldl (fun cs (x:Value×Nat)=>cs.setIfInBounds (0+x.2) x.1) z.cells).setIfInBounds n v1).setIfInBounds (n+1) v2).setIfInBounds (n+2) v3).setIfInBounds (n+3) v4)):=by unfold Program.built;simp only[hi,hu,hz,hp];have a1:=(iA 0 A z.cells).1;unfold Instr.fill;simp only[p0];have e:(Value.agg A).cells=A:=rfl;rw[e,at6 (by simp[hA];omega)];unfold Instr.fill;simp only[p1];rw[h1,at6 (by rw[a1];simp;omega),lX];unfold Instr.fill;simp only[p2];rw[h2,at6 (by rw[ap4,a1];simp;omega),lX];unfold Instr.fill;simp only[p3];rw[h3,at6 (by rw[ap4,ap4,a1];simp;omega),lX];unfold Instr.fill;simp only[p4];rw[h4,at6 (by rw[ap4,ap4,ap4,a1];simp;omega),lX];unfold Instr.fill;rfl
theorem oI {h:Hv}(o:h.Ok)(m out:Value)(n:Int)(av:Value)(h1:m.cells=#[m])(h2:out.cells=#[out])(h3:av.cells=#[av]):prog.built 142 [(0,.agg (hA h)),(1,m),(2,out),(3,.int .i64 n),(4,av)]=some (qA ⟨h,m,out,n,av⟩):=by obtain⟨it,hi,hz⟩:=ko zQ;have z0:=iO;rw[DY (n:=37) hi underlying142 hz (ps:=[(0,37),(37,1),(38,1),(39,1),(40,1)]) (by kernel_rfl) rfl rfl rfl rfl rfl (hA h) (jC o) m out (.int .i64 n) av h1 h2 rfl h3 (by show(qA _).size=41;exact fG z0)];have c0:(Value.agg (qA ⟨h0,ax,ax,0,ax⟩)).cells=qA ⟨h0,ax,ax,0,ax⟩:=rfl;rw[c0,Jn o _ z0];have l:=aD o;unfold qA;simp only[apl,apJ _ _ (show(hL h).length<=37 by omega),apJ _ _ (show(hL h).length<=38 by omega),apJ _ _ (show(hL h).length<=39 by omega),apJ _ _ (show(hL h).length<=40 by omega),l];rfl
end Mc
namespace Mc
variable [Inhabited Go.Proofs.YtiadhbmnfjfioaaGreatDoor.Hc.bN]
open Mm Hh Hc

variable {ty :Nat} {rs :List Value}
theorem uA {P:Program}{ops:Array Oper}{S:World→Prop}{o:Oper}{a:Act}(hw:Region.wanted o (yielded ops a.tmps)=true)(t:TypeId)(parts:Array (Nat×Operand))(ho:o.op=.build t parts)(cells:Array Value)(hf:P.built t (parts.map fun(i,x)=>(i,a.eval x)).toList=some cells):YieldsIf P ops S o (.agg cells) a:=
 .inl ⟨hw,fun w _=>by
  unfold execOp;simp only[ho,au3,run_build w t _ _ hf,auM];rfl⟩
structure Dq (w:World) (base:Nat) (d:Qv) (x:Wk):Prop where
 hh:d.h=x.h
 n:d.n=x.n
 mem:Own w Hc.mb d.m x.m
 out:w.ownsRow base 37 1 d.out x.out.length (x.out.map (Value.int .u32))
 av:w.ownsRow base 175 2 d.av x.av.length (rE x.av)
theorem az {w:World}{base e sz n:Nat}{v:Value}{xs:List Value}(h:w.ownsRow base e sz v n xs):v.cells=#[v]/\v.oneCell'=true/\∃a c,v=.slice a n c:=by
 rcases h.2 with⟨rfl,rfl⟩|⟨g,cap,_,rfl,_⟩
 ·exact⟨rfl,rfl,none,0,rfl⟩
 ·exact⟨rfl,rfl,_,cap,rfl⟩
theorem ni (w:World)(a b c:Obj):(((w.alloc a).alloc b).alloc c).drew.heap[w.heap.size+2]?=some c:=by
 have:=at5 ((w.alloc a).alloc b) c;have e:((w.alloc a).alloc b).heap.size=w.heap.size+2:=by simp
 rw[e]at this;exact this
theorem jm (w:World)(a b c:Obj):Gr w (((w.alloc a).alloc b).alloc c).drew:=Gr.drew (Gr.alloc (Gr.alloc (Gr.alloc (Gr.refl _) _) _) _)
theorem jd (w:World)(A:Array Value)(t:Nat)(b c:Obj):(((w.alloc (.cells A t)).alloc b).alloc c).drew.heap[w.heap.size]?=some (.cells A t (0,0)):=Hr.ae (Gr.drew (Gr.alloc (Gr.refl _) _)) (auR w _ _)
theorem wV (w:World)(a:Obj)(A:Array Value)(t:Nat)(c:Obj):(((w.alloc a).alloc (.cells A t)).alloc c).drew.heap[w.heap.size+1]?=some (.cells A t (0,0)):=Hr.ae (Gr.drew (Gr.alloc (Gr.refl _) _)) (au8 w _ _)
theorem Bg {w:World}{base g gh hc:Nat}{M O:Value}{s:Sh}(B:Bw ty rs w base g M gh hc O s){c mn:Nat}(F:Fit s c mn)(lU:mn≤4096)(T:TT w w.heap.size){k n:Nat}(hk:k<c)(hc4:c≤4)(hn:n≤400)(ST:∀(x:Wk) (W:World),AR x mn->x.n<n->(x.n=0->x=w0 s k)->In W w.heap.size (w.heap.size+2) x.h x.m x.out x.av->TT W w.heap.size->Calls prog 107 #[.pointer (some ⟨w.heap.size+2,0,none⟩)] W fun e w'=>e=.returned (.tuple #[])/\In w' w.heap.size (w.heap.size+2) (dV x.h x.m).h (dV x.h x.m).m (x.out++(dV x.h x.m).out) (x.av++(dV x.h x.m).av)/\Fr w.heap.size W w'):Calls prog 83 #[.pointer (some ⟨g,0,none⟩),.agg #[.int .i64 k,.int .i64 n]] w fun e w'=>∃d,e=.returned (.agg (qA d))/\d.h.Ok/\Dq w' w.heap.size d (wk (w0 s k) n)/\Gr w w':=by
 have hl:k<s.hs.length:=by rw[F.len];exact hk
 have eh:s.hs[k]?=some (at' s k):=by unfold at';rw[api hl];simp[List.getD,hl]
 have W0:=pQ F hk;have jM:(at' s k).Ok:=W0.ok;have RG:=kH (B.row.range eh);obtain⟨ma,mc,rfl,_⟩:=B.mem.mem;have lY:=F.mem;have HOM:Hid (Own w Hc.mb (.slice ma mn mc) s.m):=by unfold Hid;rw[<-lY];exact B.mem
 have WW:=kH (apr B.hz.2 (apr B.bg (aqP B.lt)));have HB0:Hid (w.cell? ⟨g,0,none⟩=some (.slice ma mn mc)):=by have:=B.c0;rw[lY]at this;exact this
 have HB1:Hid (w.cell? ⟨g,1,none⟩=some (.slice (some ⟨gh,0,none⟩) c hc)):=by have:=B.c1;rw[F.len]at this;exact this
 have HT:=kH T;have QW:=kH ST;have hgl:=B.lt;have Jo:gh<w.heap.size:=by obtain⟨_,e⟩:=B.row.row;exact(apk.1 e).1
 have HX:Hid (w0 s k=⟨at' s k,s.m,[],[],0⟩):=rfl;have HW0:=kH W0;have rH:Hid ((hL (at' s k)).length=37):=aD jM;have zR:Hid (at' s k).Ok:=jM;generalize at' s k=h at *
 generalize w0 s k=x0 at *
 generalize s.m=l at *
 have M9:Hid (prog.built 197 [(0,.agg (hL h).toArray),(1,.slice ma mn mc)]=some (cA ⟨h,.slice ma mn mc,ax,ax⟩)):=uq zR.out _ rfl;have HZc:Hid ((cA ⟨h,.slice ma mn mc,ax,ax⟩).size=40):=jD zR.out;have HOc:Hid ((cA ⟨h,.slice ma mn mc,ax,ax⟩).all (·.oneCell')=true):=yC _ rfl rfl rfl;have HSG:Hid (∀W:World,Gr w W->W.heap[w.heap.size]?=some (.cells #[.int .i64 k,.int .i64 n] 45 (0,0))->W.cell? ⟨g,1,none⟩=some (.slice (some ⟨gh,0,none⟩) c hc)/\W.cell? ⟨w.heap.size,0,none⟩=some (.int .i64 k)/\W.rangeAt gh (k*37) (hL h)/\W.cell? ⟨g,0,none⟩=some (.slice ma mn mc)):=fun W G e=>
  ⟨(G.cell _ (by exact hgl)).trans HB1.out,atZ _ _ _ _ _ _ e,fun j v hv=>(G.cell _ (by exact Jo)).trans (RG.out j v hv),(G.cell _ (by exact hgl)).trans HB0.out⟩
 go_enter func83,ntmps83;go_wp2_with fail;refine aut (S:=fun W=>W.cell? ⟨g,1,none⟩=some (.slice (some ⟨gh,0,none⟩) c hc)/\W.cell? ⟨w.heap.size,0,none⟩=some (.int .i64 k)/\W.rangeAt gh (k*37) (hL h)/\W.cell? ⟨g,0,none⟩=some (.slice ma mn mc)) (by kernel_rfl) ?_ (fun hHeld=>?_)
 ·exact HSG.out _ (((Gr.refl _).alloc _).alloc _).drew (Hr.ae (Gr.refl _).drew (auR w _ _))
 have aY:=kH hHeld;refine tK 0 (.pointer (some ⟨g,0,none⟩)) aY.out ?_;refine tK 1 (.pointer (some ⟨g,0,none⟩)) aY.out ?_;refine tK 2 (.pointer (some ⟨g,0,none⟩)) aY.out ?_;refine tK 3 (.pointer (some ⟨g,0,none⟩)) aY.out ?_;refine tK 4 (.pointer (some ⟨g,1,none⟩)) aY.out ?_;refine tK 5 (.slice (some ⟨gh,0,none⟩) c hc) aY.out ?_;refine tK 6 (.pointer (some ⟨w.heap.size,0,none⟩)) aY.out ?_;refine tK 7 (.int .i64 k) aY.out ?_;refine tK 8 (.pointer (some ⟨gh,k*37,none⟩)) aY.out ?_;refine auF (i:=9) (v:=.agg (hL h).toArray) rfl (by kernel_rfl) (by kernel_rfl) (by kernel_rfl) (fun _ _ _ h=>h) ?hy aY.out ?_
 case hy=>exact auN (by rfl) 43 (.tmp 15) rfl gh (k*37) (by simp[Act.eval]) (hL h) _ (fun W hW=>hW.2.2.1) underlying43 rfl (by rw[rH.out];exact iH)
 simp only[Act.put,apl,apC,apy];refine tK 10 (.pointer (some ⟨g,0,none⟩)) aY.out ?_;refine tK 11 (.pointer (some ⟨g,0,none⟩)) aY.out ?_;refine tK 12 (.pointer (some ⟨g,0,none⟩)) aY.out ?_;refine tK 13 (.pointer (some ⟨g,0,none⟩)) aY.out ?_;refine tK 14 (.pointer (some ⟨g,0,none⟩)) aY.out ?_;refine tK 15 (.slice ma mn mc) aY.out ?_;refine auF (i:=16) (v:=.agg (cA ⟨h,.slice ma mn mc,ax,ax⟩)) rfl (by kernel_rfl) (by kernel_rfl) (by kernel_rfl) (fun _ _ _ h=>h) ?hy aY.out ?_
 case hy=>exact uA (by rfl) 197 _ rfl _ (by simpa[Act.eval]using M9.out)
 simp only[Act.put,apl,apC,apy];refine aue (rs:=[17]) (by kernel_rfl) (by simp) ?_;refine aua rfl (fun K hK=>?_) aud;go_simp;refine hK.out _ _ ?_ (fun _=>?_)
 ·exact HSG.out _ (jm _ _ _ _) (jd _ _ _ _ _)
 refine aue (rs:=[18]) (by kernel_rfl) (by simp) ?_;refine aua rfl (fun K hK=>?_) aud;refine gP rfl 197 (.tmp 5) (.tmp 23) rfl (w.heap.size+2) (cA ⟨h,.slice ma mn mc,ax,ax⟩) (by simp[Act.eval]) (by simp[Act.eval]) 197 (cA ⟨h0,ax,ax,ax⟩) (ni _ _ _ _) (by rw[HZc.out];exact iC) (by rw[HZc.out];rfl) HOc.out ?_;refine hK.out _ _ ?_ (fun _=>?_)
 ·refine HSG.out _ (ag (jm _ _ _ _) (by omega) _) ?_;rw[auo _ _ _ _ (by omega)];exact jd _ _ _ _ _
 refine auy (by kernel_rfl) ?_ _;have Za:Hid (∀o1 o2:Obj,Inv ((((w.alloc o1).alloc o2).alloc (.cells (cA ⟨h0,ax,ax,ax⟩) 197)).drew.setRow (w.heap.size+2) (cA ⟨h,.slice ma mn mc,ax,ax⟩)) w.heap.size (w.heap.size+2) ⟨h,.slice ma mn mc,ax,ax⟩ l [] []):=fun o1 o2=>by
  refine⟨zR.out,by omega,aup _ _ _ _ _ (0,0) (ni _ _ _ _),HOM.out.to fun q ob f hq=>?_,WW.out,aur _ _ _ _,aur _ _ _ _⟩;have:=(apk.1 hq).1;rw[auo _ _ _ _ (by omega)];exact(jm w o1 o2 _).block q this
 have fC:Hid (∀o1 o2 o3:Obj,Gr w ((((w.alloc o1).alloc o2).alloc o3).drew.setRow (w.heap.size+2) (cA ⟨h,.slice ma mn mc,ax,ax⟩))):=fun _ _ _=>ag (jm _ _ _ _) (by omega) _
 go_wp2_with fail;go_loopw [6] (fun i wr=>∃x:Wk,i=.int .i64 x.n/\x.n<=n/\wk x0 n=wk x (n-x.n)/\AR x mn/\(x.n=0->x=x0)/\In wr w.heap.size (w.heap.size+2) x.h x.m x.out x.av/\Fr w.heap.size w wr/\wr.heap[w.heap.size]?=some (.cells #[.int .i64 k,.int .i64 n] 45 (0,0))/\∃Z:Array Value,Z.size=41/\wr.heap[w.heap.size+1]?=some (.cells Z 142 (0,0))) (fun i _=>n-(intOf i).toNat)
 case atStart=>
  refine⟨x0,by rw[HX.out];rfl,by rw[HX.out];exact apF _,by rw[HX.out];rfl,HW0.out,fun _=>rfl,?_,Fr.bD (fC.out _ _ _) (apn _),?_,qA ⟨h0,ax,ax,0,ax⟩,fG (d:=⟨h0,ax,ax,0,ax⟩) iO,?_⟩
  ·rw[HX.out];exact(Za.out _ _).rF
  ·rw[auo _ _ _ _ (by omega)];exact jd _ _ _ _ _
  ·rw[auo _ _ _ _ (by omega)];exact wV _ _ _ _ _
 case round=>
  obtain⟨x,rfl,hxn,hxw,ok,hx0,I,Fq,P4,Z,hZ,D4⟩:=hrel;have HX0:=kH hx0;have HI:=kH I;have HF:=kH Fq;have HPk:=kH P4;have HD4:=kH D4;have HZ:=kH hZ;have HXW:=kH hxw;have HWO:=kH ok;have k1:wr.cell? ⟨w.heap.size,1,none⟩=some (.int .i64 n):=atZ _ _ _ _ _ _ P4;have QS:wr.cell? ⟨w.heap.size+2,35,none⟩=some (.int .i64 x.h.state):=by
   obtain⟨cv,e,J⟩:=HI.out;rw[<-e];exact(J.hcell (by omega)).trans (aW J.ok 3)
  by_cases hgo:x.n<n/\x.h.state=0
  ·obtain⟨hlt,hst⟩:=hgo;have adk:=kH hst;rw[hst]at QS;have HST:=kH (QW.out x wr HWO.out hlt HX0.out HI.out (HT.out.of HF.out));go_wp2_with fail;refine au0 HST.out ?_;rintro e w1 ⟨rfl,I1,F1⟩;have HI1:=kH I1;have rY:=kH (HF.out.trans F1);have QX:=kH ((F1.keep _ _ _ _ HPk.out (by decide) (by decide) (by decide)).trans HPk.out);have HD1:=kH ((F1.keep _ _ _ _ HD4.out (by decide) (by decide) (by decide)).trans HD4.out);have kL:Hid (wk x0 n=wk (FU x) (n-(FU x).n)):=by
    unfold Hid;rw[HXW.out,show n-x.n=(n-(x.n+1))+1 by omega,uk adk.out];rfl
   go_wp2_with fail;go_roundw
   case rel=>exact⟨FU x,by show Value.int .i64 _=.int .i64 ((x.n+1:Nat):Int);go_num,by show x.n+1<=n;omega,kL.out,yz HWO.out adk.out,fun e=>absurd e (Nat.succ_ne_zero _),HI1.out,rY.out,QX.out,Z,HZ.out,HD1.out⟩
   case measure=>simp[intOf];omega
  ·have HE:Hid (wk x0 n=x):=by
    unfold Hid;rw[HXW.out];by_cases h1:x.n<n
    ·exact yw (fun e=>hgo ⟨h1,e⟩) _
    ·rw[show n-x.n=0 by omega];rfl
   have hc2:¬x.n<n\/(x.n<n/\(x.h.state ==0)=false):=by
    by_cases h1:x.n<n
    ·exact .inr ⟨h1,by simpa using fun e=>hgo ⟨h1,e⟩⟩
    ·exact .inl h1
   obtain⟨cv,hcv,J⟩:=HI.out;have TA:=kH HWO.out.ok;have HLx:=kH (aD TA.out);have HRx:Hid (wr.rangeAt (w.heap.size+2) 0 (hL x.h)):=fun j v hv=>by
    have hj:j<37:=by have:=(apj.1 hv).1;rwa[HLx.out]at this
    rw[apu,J.hcell hj,hcv];exact hv
   have k37:=J.dJ 0;have k38:=J.dJ 1;have KI:=J.dJ 2;have HQ:Hid (Dq wr w.heap.size ⟨x.h,cv.m,cv.out,x.n,cv.av⟩ x):=⟨rfl,rfl,J.mem,J.out,J.av⟩;have HBd:Hid (prog.built 142 [(0,.agg (hL x.h).toArray),(1,cv.m),(2,cv.out),(3,.int .i64 x.n),(4,cv.av)]=some (qA ⟨x.h,cv.m,cv.out,x.n,cv.av⟩)):=oI TA.out _ _ _ _ HQ.out.mem.cells.1 (az HQ.out.out).1 (az HQ.out.av).1;have HOd:=kH (lW HQ.out.mem.cells.2 (az HQ.out.out).2.1 (az HQ.out.av).2.1);have HSd:Hid ((qA ⟨x.h,cv.m,cv.out,x.n,cv.av⟩).size=41):=fG TA.out;generalize hQA:qA ⟨x.h,cv.m,cv.out,x.n,cv.av⟩=QA at *
   have HQA:=kH hQA;rcases hc2 with h1|⟨h1,h2⟩
   all_goals
    go_wp2_with (first
     |(refine auA rfl 43 _ rfl (w.heap.size+2) 0 rfl (hL x.h) _ ?r1 underlying43 rfl (by rw[HLx.out];exact iH) ?_;(case r1=>exact HRx.out))
     |(refine au9 rfl 142 _ rfl _ rfl QA (by have:=HBd.out;simp[Act.eval,Act.put];exact this) ?_)
     |(refine auf rfl 142 _ _ rfl (w.heap.size+1) QA rfl rfl 142 Z ?r2 (by rw[HSd.out];exact iQ) (by rw[HSd.out,HZ.out]) HOd.out ?_;(case r2=>exact HD4.out)))
    refine auc (v:=.agg QA) (auD rfl _ _ _ _ _ (0,0) _ rfl (aup _ _ _ _ _ (0,0) HD4.out) underlying142 rfl (by rw[HSd.out];exact iQ)) rfl ⟨⟨x.h,cv.m,cv.out,x.n,cv.av⟩,by rw[HQA.out],TA.out,?_,?_⟩
    ·rw[HE.out];refine⟨rfl,rfl,?_,?_,?_⟩
     ·exact HQ.out.mem.to fun q ob f hq=>auo _ _ _ _ (aa hq HD4.out (by decide))
     ·exact aj HQ.out.out fun q ob f hq=>auo _ _ _ _ (aa hq HD4.out (by decide))
     ·exact aj HQ.out.av fun q ob f hq=>auo _ _ _ _ (aa hq HD4.out (by decide))
    ·exact ag HF.out.below (aqi _) _
theorem Nw {w:World}{base g gh hc:Nat}{M O:Value}{s:Sh}(B:Bw ty rs w base g M gh hc O s){c mn:Nat}(F:Fit s c mn)(lU:mn<=4096)(T:TT w w.heap.size){k n:Nat}(hk:k<c)(hc4:c<=4)(hn:n<=400):Calls prog 83 #[.pointer (some ⟨g,0,none⟩),.agg #[.int .i64 k,.int .i64 n]] w fun e w'=>∃d,e=.returned (.agg (qA d))/\d.h.Ok/\Dq w' w.heap.size d (wk (w0 s k) n)/\Gr w w' := 
 Bg B F lU T hk hc4 hn fun x W ok hx _ I T=>Nt I T (by rw[ok.mem];omega) (by have:=ok.av;omega) (by have:=ok.out;omega)
theorem Jp {w:World}{base g gh hc:Nat}{M O:Value}{s:Sh}(B:Bw ty rs w base g M gh hc O s){c mn:Nat}(F:Fit s c mn)(lU:mn<=4096)(T:TT w w.heap.size){k:Nat}(hk:k<c)(hc4:c<=4)(hf:¬Bk.jR s.m (at' s k).pc=0):Calls prog 83 #[.pointer (some ⟨g,0,none⟩),.agg #[.int .i64 k,.int .i64 1]] w fun e w'=>∃d,e=.returned (.agg (qA d))/\d.h.Ok/\Dq w' w.heap.size d (wk (w0 s k) 1)/\Gr w w' := 
 Bg (n:=1) B F lU T hk hc4 (by omega) fun x W ok hx h0 I T=>Jk I T (by rw[ok.mem];omega) (by rw[h0 (by omega)];exact hf)
end Mc
end Go.Proofs.YtiadhbmnfjfioaaGreatDoor
