/- ours -/
import Derived.Test.YtiadhbmnfjfioaaGreatDoorX04
import Derived.Lib.SliceRun
set_option linter.unusedVariables false
set_option linter.unusedSimpArgs false
set_option maxHeartbeats 8000000
set_option maxRecDepth 100000
set_option linter.unusedSectionVars false
namespace Go.Proofs.YtiadhbmnfjfioaaGreatDoor
open Go.Proofs.Tryz
open Go.ChangeShapes Go.WideShapes Go.ChangeAt Go.RowKit
variable [Inhabited Hc.bN]
namespace Hc
open Mm Hh

variable {a op :Int} {w w' W :World} {base g n b :Nat} {h :Hv} {l :List UInt8} {os :List Int} {ss :List (Int × Int)} {x v :Value} {xs :List Value}
theorem aZ {P:Program}{ops:Array Oper}{o:Oper}{a:Act}{K:Act→World→Prop}{Q:Exit→Act→World→Prop}{E:Prop}(hg:o.guard=none)(s x:Operand)(t:TypeId)(hop:o.op=Op.call { callee:=Callee.builtin Builtin.append,args:=#[s,x],argTypes:=#[t,t] })(base:Nat)(e:TypeId)(i:TypeInfo)(z:Value)(size bytes:Nat)(h1:P.underlying t=some (.slice e))(h2:P.info? e=some i)(h3:i.zero=some z)(h4:i.size=size)(h5:i.bytes=bytes)(h6:z.cells.size=size)(h7:0<size)(v:Value)(n:Nat)(olds:List Value)(hs:a.eval s=v)(hown:w.ownsRow base e size v n olds)(ad:Addr)(m c:Nat)(news:List Value)(hx:a.eval x=.slice (some ad) m c)(hn:news.length=m*size)(hc:∀j u,news[j]?=some u->w.cell? (ad.add j)=some u)(h1c:∀u∈news,u.oneCell'=true)(b1:n+m<=maxLen)(b2:(n+m)*bytes<=140737488355328)(hbase:base<=w.heap.size)(hK:∀v' w',w'.ownsRow base e size v' (n+m) (olds++news)->w.grownBy w' v.ownBlock->K (a.put o.dst v') w'):if Region.wanted o (yielded ops a.tmps)=true then Oper.wp P o a w K Q else E:=by
 have hw:Region.wanted o (yielded ops a.tmps)=true:=by simp[Region.wanted,hg]
 rw[at7 hw];obtain⟨v',w',hrun,r1,r2,_⟩:=au6 (P:=P) w base t o.type e i z size bytes h1 h2 h3 h4 h5 h6 h7 v n olds hown ad m c news hn hc h1c b1 b2 hbase;unfold Oper.wp;simp[execOp,hop,resolve,invoke,builtin,hs,hx,hrun,Result.andThen];exact hK v' w' r1 r2
structure Tb (w:World) (base:Nat):Prop where
 sizes:∀i n,([0,0,0,0,0,0,0,0,0,0,0,0,0,0,0,0,1,2,4]:List Int)[i]?=some n->w.cell? ⟨13,i,none⟩=some (.int .u32 n)
 opers:∀i n,([0,0,0,0,0,0,0,0,0,0,0,0,0,0,0,0,0,0,0,28,31,32,33,36,37,30,34,35]:List Int)[i]?=some n->w.cell? ⟨10,i,none⟩=some (.int .i64 n)
 b1:13<base
 b2:10<base
theorem Tb.of (T:Tb w base)(h:Fr base w w'):Tb w' base:=⟨fun i n e=>(auJ h.below (by exact T.b1)).trans (T.sizes i n e),fun i n e=>(auJ h.below (by exact T.b2)).trans (T.opers i n e),T.b1,T.b2⟩
theorem WI:(prog.info? 175).map (fun i=>(i.zero,i.size,i.bytes))=some (some (.agg #[.int .u32 0,.int .u32 0]),2,8):=by kernel_rfl
theorem wC:(prog.info? 37).map (fun i=>(i.zero,i.size,i.bytes))=some (some (.int .u32 0),1,4):=by kernel_rfl
theorem lD {w:World}{base g:Nat}{h:Hv}{l:List UInt8}{os:List Int}{ss:List (Int×Int)}(I:In w base g h l os ss)(hl:l.length<=140737488351232)(op a x:Int)(h0:0<=a)(h1:a<4294967296)(hx0:0<=x)(hx1:x<4294967296)(ok:dX l op a=false):Calls prog 178 #[.pointer (some ⟨g,0,none⟩),.int .i64 op,.int .u32 a,.int .u32 x] w fun e w'=>e=.returned (.tuple #[])/\In w' base g (h.trap 4) l os ss/\Ch g w w':=by
 have T:Hid (∀W,In W base g h l os ss->∀c,_):=fun W I c=>dK I c
 have HI:=kH I;obtain⟨c0,rfl,I⟩:=I;obtain⟨ao,cap,hm,M⟩:=I.mem.mem;have k1:w.cell? ⟨g,37,none⟩=some (.slice ao l.length cap):=(I.dJ 0).trans (by rw[hm];rfl);have L:Hid (Calls prog 189 #[.slice ao l.length cap,.int .i64 op,.int .u32 a,.int .u32 x] w fun e w'=>∃QQ n' cap',e=.returned (.tuple #[.slice QQ n' cap',.bool false])/\Gr w w'):=by
  have:=Mm.dO cap op a x M hl h0 h1 hx0 hx1;rw[ok]at this;exact this.mono fun e w' ⟨a1,n1,c1,e1,_,e3⟩=>⟨a1,n1,c1,e1,e3⟩
 generalize l.length=n at *
 go_enter func178,ntmps178;go_wp2_with fail;refine L.out.mono ?_;rintro e w1 ⟨a1,n1,c1,rfl,G1⟩;have HI1:=kH (HI.out.of G1);have oQ:=kH ((Ch.refl g w).gr G1);go_wp2_with fail;refine(T.out _ HI1.out 4).mono ?_;rintro e w2 ⟨rfl,I2,C2⟩;have HI2:=kH I2;have ll:=kH (oQ.out.trans C2);go_wp2;refine auc (auV results178 _ _ _) rfl ?_;exact⟨rfl,HI2.out,ll.out⟩
theorem wE {ao:Option Addr}(cap:Nat)(op a x:Int)(M:Mem w ao n l)(hn:n<=140737488351232)(h0:0<=a)(h1:a<4294967296)(hx0:0<=x)(hx1:x<4294967296)(ok:dX l op a=true):Calls prog 189 #[.slice ao n cap,.int .i64 op,.int .u32 a,.int .u32 x] w fun e w'=>e=.returned (.tuple #[.slice (some ⟨w.heap.size,0,none⟩) n n,.bool true])/\qB w' w.heap.size n (il l op a x)/\Gr w w':=by
 have hl:=M.len;have hok:qy n (gG op) a=true:=by unfold dX at ok;rw[hl]at ok;exact ok
 have e2:il l op a x=put l a.toNat x (gG op):=by unfold il;rw[ok];rfl
 rw[e2];obtain⟨b,o,rfl,hb,hc⟩:=M.spot (xY hok h0);obtain⟨a,rfl⟩:=apt h0;exact Mm.iZ b o n cap l op x a w hn hl (by omega) hb hx0 hx1 hc hok
theorem xZ {x:Int}(ok:dX l op a=true):(il l op a x).length=l.length:=by unfold il;rw[ok];exact iR _ _ _ _
theorem Fy (ok:dX l op a=true):op=16\/op=17\/op=18:=by
 have h:¬gG op=0:=by
  intro h;simp[dX,qy,h]at ok
 unfold gG at h;repeat' split at h
 all_goals omega
theorem Gr.drew {a:World}(h:Gr a w):Gr a w.drew:=h.drewN 1
theorem aC {e sz:Nat}(h:w.ownsRow base e sz v n xs)(q:Gr w w'):w'.ownsRow base e sz v n xs:=aj h fun k o f hk=>q.block k (gs hk).1
theorem dh {size:Nat}{e:TypeId}(h:w.ownsRow base e size v n xs)(hn:0<n):∃g cap,v=.slice (some ⟨g,0,none⟩) n cap:=by
 rcases h.2 with⟨_,h0⟩|⟨g,cap,_,hv,_⟩
 ·omega
 ·exact⟨g,cap,hv⟩
theorem dP {y:Value}(h0:W.cell? ⟨b,0,none⟩=some x)(h1:W.cell? ⟨b,1,none⟩=some y):∀j u,([x,y]:List Value)[j]?=some u->W.cell? ((⟨b,0,none⟩:Addr).add j)=some u:=by
 intro j u hj;rw[cz]
 match j,hj with
 |0,hj=>simp at hj;subst hj;exact h0
 |1,hj=>simp at hj;subst hj;exact h1
theorem mU (a b:Int):∀u∈[Value.int .u32 a,Value.int .u32 b],u.oneCell'=true:=by intro u hu;simp at hu;rcases hu with rfl|rfl<;>rfl
theorem iZ (I:In w base g h l os ss)(T:Tb w base)(hl:l.length<=140737488351232)(hss:ss.length<=1000000)(op a x:Int)(h0:0<=a)(h1:a<4294967296)(hx0:0<=x)(hx1:x<4294967296)(ok:dX l op a=true):Calls prog 178 #[.pointer (some ⟨g,0,none⟩),.int .i64 op,.int .u32 a,.int .u32 x] w fun e w'=>e=.returned (.tuple #[])/\In w' base g h (il l op a x) os (ss++[(a,((gG op:Nat):Int))])/\Fr base w w':=by
 obtain⟨c0,rfl,I⟩:=I;obtain⟨ao,cap,hm,M⟩:=I.mem.mem;have k1:w.cell? ⟨g,37,none⟩=some (.slice ao l.length cap):=(I.dJ 0).trans (by rw[hm];rfl);have L:=kH (wE cap op a x M hl h0 h1 hx0 hx1 ok);have hk:=xZ (x:=x) ok;have hop:=Fy ok;obtain⟨i0,hi,hz0,hz1,hz2⟩:=auz WI;generalize il l op a x=k at *
 have HI:=kH I;have HT:=kH T;rcases hop with rfl|rfl|rfl
 ·rw[show((gG 16:Nat):Int)=1 from rfl];go_enter func178,ntmps178;go_wp2_with fail;refine L.out.mono ?_;rintro e w1 ⟨rfl,R1,G1⟩;have J:=HI.out.stored G1 R1 hk;have q1:=(Gr.cell G1 _ (by exact HI.out.lt)).trans k1;have q2:=(HI.out.of G1).fz 37;have B:Fr base w (w1.setCell ⟨g,37,none⟩ (.slice (some ⟨w.heap.size,0,none⟩) l.length l.length)):=HI.out.rF.below (((Ch.refl g w).gr G1).setCell _ _);go_wp2_with fail;generalize w1.setCell ⟨g,37,none⟩ (.slice (some ⟨w.heap.size,0,none⟩) l.length l.length)=w2 at *
  have KI:=J.dJ 2;have fz:=J.fz;have hg:=J.lt;have ks:=(HT.out.of B).sizes 16 1 rfl;have HJ:=kH J;have HB:=kH B;go_region_law (refine aZ rfl (.tmp 33) (.tmp 41) 140 rfl base 175 i0 _ 2 8 underlying140 hi hz0 hz1 hz2 rfl (by decide) c0.av ss.length (rE ss) (by simp[Act.eval,Act.put]) (aC HJ.out.av (by repeat (first|exact Gr.refl _|refine Gr.drew ?_|refine Gr.alloc ?_ _))) ⟨w2.heap.size,0,none⟩ 1 1 [.int .u32 a,.int .u32 (IntKind.u32.wrap (a+1))] (by simp[Act.eval,Act.put]) rfl (dP (by simp) (by simp)) (mU _ _) (by unfold maxLen;omega) (by omega) (by have:=HJ.out.ay;simp;omega) ?_;intro v' w' hown hgrow;obtain⟨g',cp,rfl⟩:=dh hown (by omega);obtain⟨c39,f39,F⟩:=HJ.out.gJ (n:=ss.length+1) (by repeat (first|exact Gr.refl _|refine Gr.drew ?_|refine Gr.alloc ?_ _)) hgrow (ss':=ss++[(a,1)]) (by simp) (by rw[jX];exact hown);have HF:Hid _:=F;clear F hown hgrow)
  all_goals
   go_end0;exact⟨rfl,HF.out.1.rF,HB.out.trans HF.out.2⟩
 ·rw[show((gG 17:Nat):Int)=2 from rfl];go_enter func178,ntmps178;go_wp2_with fail;refine L.out.mono ?_;rintro e w1 ⟨rfl,R1,G1⟩;have J:=HI.out.stored G1 R1 hk;have q1:=(Gr.cell G1 _ (by exact HI.out.lt)).trans k1;have q2:=(HI.out.of G1).fz 37;have B:Fr base w (w1.setCell ⟨g,37,none⟩ (.slice (some ⟨w.heap.size,0,none⟩) l.length l.length)):=HI.out.rF.below (((Ch.refl g w).gr G1).setCell _ _);go_wp2_with fail;generalize w1.setCell ⟨g,37,none⟩ (.slice (some ⟨w.heap.size,0,none⟩) l.length l.length)=w2 at *
  have KI:=J.dJ 2;have fz:=J.fz;have hg:=J.lt;have ks:=(HT.out.of B).sizes 17 2 rfl;have HJ:=kH J;have HB:=kH B;go_region_law (refine aZ rfl (.tmp 33) (.tmp 41) 140 rfl base 175 i0 _ 2 8 underlying140 hi hz0 hz1 hz2 rfl (by decide) c0.av ss.length (rE ss) (by simp[Act.eval,Act.put]) (aC HJ.out.av (by repeat (first|exact Gr.refl _|refine Gr.drew ?_|refine Gr.alloc ?_ _))) ⟨w2.heap.size,0,none⟩ 1 1 [.int .u32 a,.int .u32 (IntKind.u32.wrap (a+2))] (by simp[Act.eval,Act.put]) rfl (dP (by simp) (by simp)) (mU _ _) (by unfold maxLen;omega) (by omega) (by have:=HJ.out.ay;simp;omega) ?_;intro v' w' hown hgrow;obtain⟨g',cp,rfl⟩:=dh hown (by omega);obtain⟨c39,f39,F⟩:=HJ.out.gJ (n:=ss.length+1) (by repeat (first|exact Gr.refl _|refine Gr.drew ?_|refine Gr.alloc ?_ _)) hgrow (ss':=ss++[(a,2)]) (by simp) (by rw[jX];exact hown);have HF:Hid _:=F;clear F hown hgrow)
  all_goals
   go_end0;exact⟨rfl,HF.out.1.rF,HB.out.trans HF.out.2⟩
 ·rw[show((gG 18:Nat):Int)=4 from rfl];go_enter func178,ntmps178;go_wp2_with fail;refine L.out.mono ?_;rintro e w1 ⟨rfl,R1,G1⟩;have J:=HI.out.stored G1 R1 hk;have q1:=(Gr.cell G1 _ (by exact HI.out.lt)).trans k1;have q2:=(HI.out.of G1).fz 37;have B:Fr base w (w1.setCell ⟨g,37,none⟩ (.slice (some ⟨w.heap.size,0,none⟩) l.length l.length)):=HI.out.rF.below (((Ch.refl g w).gr G1).setCell _ _);go_wp2_with fail;generalize w1.setCell ⟨g,37,none⟩ (.slice (some ⟨w.heap.size,0,none⟩) l.length l.length)=w2 at *
  have KI:=J.dJ 2;have fz:=J.fz;have hg:=J.lt;have ks:=(HT.out.of B).sizes 18 4 rfl;have HJ:=kH J;have HB:=kH B;go_region_law (refine aZ rfl (.tmp 33) (.tmp 41) 140 rfl base 175 i0 _ 2 8 underlying140 hi hz0 hz1 hz2 rfl (by decide) c0.av ss.length (rE ss) (by simp[Act.eval,Act.put]) (aC HJ.out.av (by repeat (first|exact Gr.refl _|refine Gr.drew ?_|refine Gr.alloc ?_ _))) ⟨w2.heap.size,0,none⟩ 1 1 [.int .u32 a,.int .u32 (IntKind.u32.wrap (a+4))] (by simp[Act.eval,Act.put]) rfl (dP (by simp) (by simp)) (mU _ _) (by unfold maxLen;omega) (by omega) (by have:=HJ.out.ay;simp;omega) ?_;intro v' w' hown hgrow;obtain⟨g',cp,rfl⟩:=dh hown (by omega);obtain⟨c39,f39,F⟩:=HJ.out.gJ (n:=ss.length+1) (by repeat (first|exact Gr.refl _|refine Gr.drew ?_|refine Gr.alloc ?_ _)) hgrow (ss':=ss++[(a,4)]) (by simp) (by rw[jX];exact hown);have HF:Hid _:=F;clear F hown hgrow)
  all_goals
   go_end0;exact⟨rfl,HF.out.1.rF,HB.out.trans HF.out.2⟩
theorem dO (I:In w base g h l os ss)(T:Tb w base)(hl:l.length<=140737488351232)(hss:ss.length<=1000000)(op a x:Int)(h0:0<=a)(h1:a<4294967296)(hx0:0<=x)(hx1:x<4294967296):Calls prog 178 #[.pointer (some ⟨g,0,none⟩),.int .i64 op,.int .u32 a,.int .u32 x] w fun e w'=>e=.returned (.tuple #[])/\In w' base g (aH h l op a x).h (aH h l op a x).m os (ss++(aH h l op a x).av)/\Fr base w w':=by
 unfold aH;cases ok:dX l op a with
 |false=>
  refine(lD I hl op a x h0 h1 hx0 hx1 ok).mono ?_;rintro e w' ⟨rfl,J,C⟩;exact⟨rfl,by simpa using J,I.below C⟩
 |true=>exact iZ I T hl hss op a x h0 h1 hx0 hx1 ok
theorem one_cell (h0:W.cell? ⟨b,0,none⟩=some x):∀j u,([x]:List Value)[j]?=some u->W.cell? ((⟨b,0,none⟩:Addr).add j)=some u:=by
 intro j u hj;rw[cz]
 match j,hj with
 |0,hj=>simp at hj;subst hj;exact h0
theorem one_one (a:Int):∀u∈[Value.int .u32 a],u.oneCell'=true:=by intro u hu;simp at hu;subst hu;rfl
theorem tL (I:In w base g h l os ss)(hos:os.length<=1000000)(Yu:rg h 17=1):Calls prog 181 #[.pointer (some ⟨g,0,none⟩)] w fun e w'=>e=.returned (.tuple #[])/\In w' base g h l (os++[rg h 10]) ss/\Fr base w w':=by
 obtain⟨c0,rfl,I⟩:=I;have k17:w.cell? ⟨g,17,none⟩=some (.int .u32 1):=by rw[<-Yu];exact I.reg (by omega)
 have k10:w.cell? ⟨g,10,none⟩=some (.int .u32 (rg c0.h 10)):=I.reg (by omega);have k38:=I.dJ 1;have fz:=I.fz;have hg:=I.lt;have HJ:Hid _:=I;obtain⟨i0,hi,hz0,hz1,hz2⟩:=auz wC;generalize rg c0.h 10=x at *
 go_enter func181,ntmps181;go_wp2_with fail;go_region_law (refine aZ rfl (.tmp 22) (.tmp 29) 36 rfl base 37 i0 _ 1 4 underlying36 hi hz0 hz1 hz2 rfl (by decide) c0.out os.length (os.map (Value.int .u32)) (by simp[Act.eval,Act.put]) (aC HJ.out.out (by repeat (first|exact Gr.refl _|refine Gr.drew ?_|refine Gr.alloc ?_ _))) ⟨w.heap.size,0,none⟩ 1 1 [.int .u32 x] (by simp[Act.eval,Act.put]) rfl (one_cell (by simp)) (one_one _) (by unfold maxLen;omega) (by omega) (by have:=HJ.out.ay;simp;omega) ?_;intro v' w' hown hgrow;obtain⟨g',cp,rfl⟩:=dh hown (by omega);obtain⟨c38,f38,F⟩:=HJ.out.qF (n:=os.length+1) (by repeat (first|exact Gr.refl _|refine Gr.drew ?_|refine Gr.alloc ?_ _)) hgrow (os':=os++[x]) (by simp) (by rw[aqb];exact hown);have HF:Hid _:=F;clear F hown hgrow)
 all_goals
  go_end0;exact⟨rfl,HF.out.1.rF,HF.out.2⟩
theorem tN {w:World}{base g:Nat}{h:Hv}{l:List UInt8}{os:List Int}{ss:List (Int×Int)}(I:In w base g h l os ss)(Yu:¬rg h 17=1):Calls prog 181 #[.pointer (some ⟨g,0,none⟩)] w fun e w'=>e=.returned (.tuple #[])/\In w' base g (if rg h 17=0 then h.halt else h.trap 5) l os ss/\Fr base w w':=by
 have T:Hid (∀c,Calls prog 134 #[.pointer (some ⟨g,0,none⟩),.int .i64 c] w fun e w'=>e=.returned (.tuple #[])/\In w' base g (h.trap c) l os ss/\Ch g w w'):=fun c=>dK I c
 have HI:=kH I;obtain⟨c0,rfl,I⟩:=I;have k17:w.cell? ⟨g,17,none⟩=some (.int .u32 (rg c0.h 17)):=I.reg (by omega);have QS:=(I.hcell (by omega)).trans (aW I.ok 3);have fz:=I.fz;have o1:=I.ok.halt;have HJ:=kH (I.set (by omega) (mR I.ok 1) o1);generalize c0.h.state=y at *
 generalize hx:rg c0.h 17=x at *
 by_cases h0:x=0
 ·subst h0;rw[at7 rfl];clear T;go_enter func181,ntmps181;go_wp2_with fail;go_end0;exact⟨rfl,HJ.out.rF,HI.out.below ((Ch.refl g w).setCell _ _)⟩
 ·rw[at6 h0];have b0:(x ==0)=false:=by simp[h0]
  have b1:(x ==1)=false:=by simp[Yu]
  go_enter func181,ntmps181;go_wp2_with fail;refine(T.out 5).mono ?_;rintro e w' ⟨rfl,I2,C2⟩;have HI2:=kH I2;have ll:=kH C2;go_wp2_with fail;go_end0;exact⟨rfl,HI2.out,HI.out.below ll.out⟩
theorem tO (I:In w base g h l os ss)(hos:os.length<=1000000):Calls prog 181 #[.pointer (some ⟨g,0,none⟩)] w fun e w'=>e=.returned (.tuple #[])/\In w' base g (bA h l).h l (os++(bA h l).out) ss/\Fr base w w':=by
 unfold bA;by_cases h1:rg h 17=1
 ·rw[ak,at7 h1];exact tL I hos h1
 ·refine(tN I h1).mono ?_;rintro e w' ⟨rfl,J,B⟩;refine⟨rfl,?_,B⟩;by_cases h0:rg h 17=0
  ·rw[at7 h0]at J ⊢;simpa using J
  ·rw[at6 h0]at J;rw[at6 h0,at6 h1];simpa using J
end Hc
namespace Kc
open Mm Ts Hc

variable {w w' :World} {bs :List Bv} {xs :List Value} {b :Bv} {u v :Value} {f t :Int} {j k n :Nat}
structure Bw (w:World) (bs:List Bv) (xs:List Value):Prop where
 len:xs.length=bs.length*2
 at_:∀(j:Nat) (b:Bv),bs[j]?=some b->∃u v,xs[j*2]?=some u/\xs[j*2+1]?=some v/\Bc w b u v
theorem Bc.ones (h:Bc w b u v):u.oneCell'=true/\v.oneCell'=true/\∃sa sn sc,v=.slice sa sn sc:=by obtain⟨rfl,_,sa,sn,sc,rfl,_⟩:=h;exact⟨rfl,rfl,sa,sn,sc,rfl⟩
def bJ (f t:Int) (bs:List Bv):List Bv:=bs.filter fun b=>!hasB b f t
theorem wF (h:bs[j]?=some b):bJ f t (bs.take (j+1))=if hasB b f t=true then bJ f t (bs.take j)else bJ f t (bs.take j)++[b]:=by
 unfold bJ;rw[apU,h,List.filter_append];split
 ·rename_i q;simp[q]
 ·rename_i q;simp[q]
theorem LB (f t:Int)(bs:List Bv)(j:Nat):(bJ f t (bs.take j)).length<=j:=by unfold bJ;refine apr (List.length_filter_le _ _) ?_;simp;omega
theorem LC:(prog.info? 64).map (fun i=>(i.zero,i.size,i.bytes))=some (some (.agg #[.int .u32 0,.slice none 0 0]),2,32):=by kernel_rfl
theorem wG:(prog.info? 54).map (·.size)=some 4:=by kernel_rfl
theorem aX (g:Gr w w'){x:Obj}(h:w.heap[k]?=some x):w'.heap[k]?=some x:=by rw[g.block k (gs h).1];exact h
theorem dL {W:World}{base:Nat}{V:Value}(O:W.ownsRow base 64 2 V n xs)(q:W.grownBy w' V.ownBlock){c:Array Value}{t:Nat}{f:Nat×Nat}(h:W.heap[k]?=some (.cells c t f))(ht:t≠64):w'.heap[k]?=some (.cells c t f):=by
 rw[q.block k (gs h).1 (fun e=>by
  rcases O.2 with⟨h0,_⟩|⟨g',cp,cur,hv,_,hg,_⟩
  ·rw[h0]at e;cases e
  ·rw[hv]at e;injection e with e;exact aa h hg ht e)]
 exact h
theorem tQ (h1:u.oneCell'=true)(h2:v.oneCell'=true):∀x∈[u,v],x.oneCell'=true:=by intro x hx;simp only[apx,apB,auw]at hx;rcases hx with rfl|rfl<;>assumption
end Kc
namespace Kc
open Mm Ts Hc

variable {bs :List Bv} {w :World} {base n g cp :Nat} {xs :List Value}
def o6 (k:Int):List Bv→Nat→List Bv
 | [],_=>[]
 |b::r,i=>if(i:Int)=k then o6 k r (i+1)else b::o6 k r (i+1)
theorem LD (k:Int):∀(l:List Bv) (i:Nat),(o6 k l i).length≤l.length
 | [],i=>apn _
 |b::r,i=>by
  have:=LD k r (i+1);unfold o6;split
  ·simp;omega
  ·simp;omega
theorem Il (O:w.ownsRow base 64 2 (.slice (some ⟨g,0,none⟩) n cp) n xs):g<w.heap.size/\n<=cp/\∀j u,xs[j]?=some u->w.cell? ⟨g,j,none⟩=some u:=by
 refine⟨(O.lt g rfl).2,?_,fun j u hu=>?_⟩
 ·rcases O.2 with⟨h,_⟩|⟨g',cap,cur,e,_,_,h,_⟩
  ·cases h
  ·injection e with _ _ e3;omega
 ·have:=O.cells (g:=g) rfl j u hu;rwa[cz,apu]at this
theorem Yw (O:w.ownsRow base 64 2 (.slice (some ⟨g,0,none⟩) n cp) n xs)(W:Bw w bs xs)(k m:Nat)(hm:bs.length=k+m):Bs w (some ⟨g,k*2,none⟩) m (bs.drop k):=by
 obtain⟨hg,_,hc⟩:=Il O;refine⟨by simp;omega,fun _=>⟨g,k*2,rfl,hg,fun j x hx=>?_⟩⟩;rw[ap3]at hx;obtain⟨u,v,h1,h2,h3⟩:=W.at_ (k+j) x hx;refine⟨u,v,?_,?_,h3⟩
 ·rw[show k*2+j*2=(k+j)*2 by omega];exact hc _ _ h1
 ·rw[show k*2+j*2+1=(k+j)*2+1 by omega];exact hc _ _ h2
theorem Yx (w:World)(a:Option Addr):Bs w a 0 []:=⟨rfl,fun h=>absurd h (by omega)⟩
end Kc
namespace Kc
open Mm Ts Hc

def wH (pc:Int) (bs:List Bv):Bv:=if 0<=place pc bs 0 then bs.getD (place pc bs 0).toNat ⟨0,[]⟩else⟨0,[]⟩
def jy (room:Int) (bs:List Bv) (b0:Bv):List Bv:=if room<((o6 (place b0.pc bs 0) bs 0++[b0]).length:Int)then(o6 (place b0.pc bs 0) bs 0++[b0]).drop 1 else o6 (place b0.pc bs 0) bs 0++[b0]
def rX (room pu:Int) (bs:List Bv) (b0:Bv):Int:=if room<((o6 (place b0.pc bs 0) bs 0++[b0]).length:Int)then wrap64 (pu+1)else pu
theorem fU (pc:Int):∀(bs:List Bv) (k:Nat),place pc bs k = -1∨∃j x,place pc bs k=((k+j:Nat):Int)∧bs[j]?=some x
 | [],k=>.inl rfl
 |b::r,k=>by
  unfold place;split
  ·exact .inr ⟨0,b,rfl,rfl⟩
  ·rcases fU pc r (k+1)with h|⟨j,x,h,hx⟩
   ·exact .inl h
   ·exact .inr ⟨j+1,x,by rw[h];congr 1;omega,by simpa using hx⟩
end Kc
namespace Kc
open Mm Ts Hc

variable {w w' a :World} {b :Bv} {ao :Option Addr} {n base b0 g cap j b1 :Nat} {bs :List Bv} {v :Value} {is :List Iv} {xs cs :List Value}
def QT (is:List Iv):List Value:=is.flatMap Lj
theorem Fz (is:List Iv):(QT is).length=is.length*5:=by
 induction is with
 |nil=>rfl
 |cons p r ih=>simp only[QT,apL,apo,apH]at ih ⊢;rw[ih];simp[Lj];omega
theorem ym:∀(is:List Iv) (i j:Nat) (x:Iv),is[i]?=some x→j<5→(QT is)[i*5+j]?=(Lj x)[j]?
 | [],i,j,x,h,_=>by simp at h
 |p::r,0,j,x,h,hj=>by
  simp at h;subst h;show(Lj p++QT r)[0*5+j]?=_
  rw[aqI,apu,apA (by simpa[Lj]using hj)]
 |p::r,i+1,j,x,h,hj=>by
  have ih:=ym r i j x (by simpa using h) hj;show(Lj p++QT r)[(i+1)*5+j]?=_
  rw[apv (by simp[Lj];omega)];rw[show(i+1)*5+j-(Lj p).length=i*5+j by simp[Lj];omega];exact ih
theorem RY (is:List Iv):∀u∈QT is,u.oneCell'=true:=by intro u hu;simp only[QT,arp]at hu;obtain⟨i,_,hu⟩:=hu;simp only[Lj,apx,apB,auw]at hu;rcases hu with rfl|rfl|rfl|rfl|rfl<;>rfl
structure Bv.Ok (b:Bv):Prop where
 pc:0<=b.pc/\b.pc<4294967296
 is:∀i∈b.is,i.Ok
 sz:b.is.length*40<=140737488351232
theorem Bc.ok {x y:Value}(h:Bc w b x y):b.Ok:=by obtain⟨_,p,sa,sn,sc,_,I,hs⟩:=h;exact⟨p,I.ok,by rw[I.len];exact hs⟩
theorem Bs.ok (h:Bs w ao n bs):∀b∈bs,b.Ok:=fun b hb=>by obtain⟨j,hj⟩:=aqe.1 hb;obtain⟨g,o,_,_,hc⟩:=h.spot (by rw[<-h.len];exact Nat.lt_of_le_of_lt (apF _) (apj.1 hj).1);obtain⟨u,v,_,_,B⟩:=hc j b hj;exact B.ok
def Io (w:World) (base:Nat) (v:Value) (is:List Iv):Prop:=w.ownsRow base 59 5 v is.length (QT is)
theorem Io.to (h:Io w base v is)(q:∀(k:Nat) (o:Array Value) (f:Nat×Nat),w.heap[k]?=some (.cells o 59 f)->w'.heap[k]?=w.heap[k]?):Io w' base v is:=aj h q
theorem Io.of (h:Io w base v is)(q:Gr w w'):Io w' base v is:=aC h q
theorem Io.low (h:Io w base v is)(hb:b0<=base):Io w b0 v is:=by
 obtain⟨h1,h2⟩:=h;refine⟨h1,?_⟩;rcases h2 with h2|⟨g,cp,cur,e1,e2,e3⟩
 ·exact .inl h2
 ·exact .inr ⟨g,cp,cur,e1,by omega,e3⟩
theorem Io.shape (h:Io w base v is):∃a c,v=.slice a is.length c:=by
 rcases h.2 with⟨rfl,e⟩|⟨g,cp,cur,rfl,_⟩
 ·exact⟨none,0,by rw[e]⟩
 ·exact⟨_,_,rfl⟩
theorem Io.bc (h:Io w base v b.is)(o:b.Ok):Bc w b (.int .u32 b.pc) v:=by
 obtain⟨a,c,rfl⟩:=h.shape;refine⟨rfl,o.pc,a,_,c,rfl,⟨rfl,o.is,fun hn=>?_⟩,o.sz⟩;obtain⟨g,cp,e⟩:=dh h hn;injection e with e1 _ _;subst e1;have hl:=(h.lt g rfl).2;refine⟨g,0,rfl,hl,fun j i hj=>?_⟩;have q:∀t u,(Lj i)[t]?=some u->w.cell? ⟨g,j*5+t,none⟩=some u:=fun t u hu=>by
  have ht:=(apj.1 hu).1;have:=h.cells (g:=g) rfl (j*5+t) u (by rw[ym _ _ _ _ hj ht];exact hu);rwa[cz,apu]at this
 rw[apu];have q0:=q 0 _ rfl;rw[aqt]at q0;exact⟨q0,q 1 _ rfl,q 2 _ rfl,q 3 _ rfl,q 4 _ rfl⟩
structure Bx (w:World) (base:Nat) (bs:List Bv) (xs:List Value):Prop where
 len:xs.length=bs.length*2
 at_:∀(j:Nat) (b:Bv),bs[j]?=some b->∃v,xs[j*2]?=some (.int .u32 b.pc)/\xs[j*2+1]?=some v/\Io w base v b.is
theorem Bx.nil (w:World)(base:Nat):Bx w base [] []:=⟨rfl,fun j b h=>by simp at h⟩
theorem Bx.to (h:Bx w base bs xs)(q:∀(k:Nat) (o:Array Value) (f:Nat×Nat),w.heap[k]?=some (.cells o 59 f)->w'.heap[k]?=w.heap[k]?):Bx w' base bs xs:=
 ⟨h.len,fun j b hb=>by
  obtain⟨v,h1,h2,h3⟩:=h.at_ j b hb;exact⟨v,h1,h2,h3.to q⟩⟩
theorem Bx.of (h:Bx w base bs xs)(q:Gr w w'):Bx w' base bs xs:=h.to fun k o f hk=>q.block k (gs hk).1
theorem Bx.low (h:Bx w base bs xs)(hb:b0<=base):Bx w b0 bs xs:=
 ⟨h.len,fun j b hj=>by
  obtain⟨v,h1,h2,h3⟩:=h.at_ j b hj;exact⟨v,h1,h2,h3.low hb⟩⟩
theorem Bx.snoc (h:Bx w base bs xs)(hb:Io w base v b.is):Bx w base (bs++[b]) (xs++[.int .u32 b.pc,v]):=by
 have hl:=h.len;refine⟨by simp[hl];omega,fun j c hc=>?_⟩;by_cases hj:j<bs.length
 ·rw[apA hj]at hc;obtain⟨y,h1,h2,h3⟩:=h.at_ j c hc;exact⟨y,by rw[apA (by omega)];exact h1,by rw[apA (by omega)];exact h2,h3⟩
 ·rw[apv (by omega)]at hc;have hj2:j=bs.length:=by
   have:=(apj.1 hc).1;simp at this;omega
  subst hj2;simp at hc;subst hc;refine⟨v,?_,?_,hb⟩
  ·rw[apv (by omega),hl,Nat.sub_self];rfl
  ·rw[apv (by omega),hl,show bs.length*2+1-bs.length*2=1 by omega];rfl
theorem Bx.one (h:Bx w base bs xs):∀u∈xs,u.oneCell'=true:=fun u hu=>by
 obtain⟨i,hi⟩:=aqe.1 hu;have hlt:=(apj.1 hi).1;have hl:=h.len;obtain⟨b,hb⟩:∃b,bs[i/2]?=some b:=⟨_,api (by omega)⟩;obtain⟨v,h1,h2,h3⟩:=h.at_ _ b hb;rcases ark i with e|e
 ·rw[show i/2*2=i by omega,hi]at h1;injection h1 with h1;subst h1;rfl
 ·rw[show i/2*2+1=i by omega,hi]at h2;injection h2 with h2;subst h2;obtain⟨a,c,rfl⟩:=h3.shape;rfl
theorem Bx.take (h:Bx w base bs xs)(k:Nat):Bx w base (bs.take k) (xs.take (k*2)):=by
 have hl:=h.len;refine⟨by rw[ap5,ap5,hl];omega,fun j b hj=>?_⟩;rw[apS]at hj;split at hj
 ·obtain⟨v,h1,h2,h3⟩:=h.at_ j b hj;refine⟨v,?_,?_,h3⟩
  ·rw[apS,dU];exact h1
  ·rw[apS,dU];exact h2
 ·cases hj
theorem Bx.drop (h:Bx w base bs xs)(k:Nat):Bx w base (bs.drop k) (xs.drop (k*2)):=by
 have hl:=h.len;refine⟨by rw[aqh,aqh,hl];omega,fun j b hj=>?_⟩;rw[ap3]at hj;obtain⟨v,h1,h2,h3⟩:=h.at_ _ b hj;refine⟨v,?_,?_,h3⟩
 ·rw[ap3,show k*2+j*2=(k+j)*2 by omega];exact h1
 ·rw[ap3,show k*2+(j*2+1)=(k+j)*2+1 by omega];exact h2
theorem Bx.app {ds:List Bv}{ys:List Value}(h:Bx w base ds xs)(k:Bx w base bs ys):Bx w base (ds++bs) (xs++ys):=by
 have hl:=h.len;have kl:=k.len;refine⟨by rw[apo,apo,hl,kl];omega,fun j b hj=>?_⟩;by_cases hlt:j<ds.length
 ·rw[apA hlt]at hj;obtain⟨v,h1,h2,h3⟩:=h.at_ j b hj;exact⟨v,by rw[apA (by omega)];exact h1,by rw[apA (by omega)];exact h2,h3⟩
 ·rw[apv (by omega)]at hj;obtain⟨v,h1,h2,h3⟩:=k.at_ _ b hj;refine⟨v,?_,?_,h3⟩
  ·rw[apv (by omega),show j*2-xs.length=(j-ds.length)*2 by omega];exact h1
  ·rw[apv (by omega),show j*2+1-xs.length=(j-ds.length)*2+1 by omega];exact h2
theorem Bx.bw (h:Bx w base bs xs)(o:∀b∈bs,b.Ok):Bw w bs xs:=
 ⟨h.len,fun j b hj=>by
  obtain⟨v,h1,h2,h3⟩:=h.at_ j b hj;exact⟨_,v,h1,h2,h3.bc (o b (aps hj))⟩⟩
structure Bq (w:World) (ao:Option Addr) (n:Nat) (bs:List Bv):Prop where
 len:bs.length=n
 spot:0<n->∃b o,ao=some ⟨b,o,none⟩/\b<w.heap.size/\∀j x,bs[j]?=some x->w.cell? ⟨b,o+j*2,none⟩=some (.int .u32 x.pc)/\∃sa sc,w.cell? ⟨b,o+j*2+1,none⟩=some (.slice sa x.is.length sc)
theorem Bq.of (h:Bq w ao n bs)(g:Gr w w'):Bq w' ao n bs:=
 ⟨h.len,fun hn=>by
  obtain⟨b,o,e,hb,hc⟩:=h.spot hn;refine⟨b,o,e,apq hb g.size,fun j i hj=>?_⟩;obtain⟨h0,sa,sc,h1⟩:=hc j i hj;exact⟨(g.cell _ (by exact hb)).trans h0,sa,sc,(g.cell _ (by exact hb)).trans h1⟩⟩
theorem Bs.bq (h:Bs w ao n bs):Bq w ao n bs:=
 ⟨h.len,fun hn=>by
  obtain⟨b,o,e,hb,hc⟩:=h.spot hn;refine⟨b,o,e,hb,fun j x hj=>?_⟩;obtain⟨u,v,h0,h1,rfl,_,sa,sn,sc,rfl,I,_⟩:=hc j x hj;exact⟨h0,sa,sc,by rw[I.len];exact h1⟩⟩
structure Rw (w:World) (base g cap:Nat) (cs:List Value):Prop where
 low:base<=g
 row:w.heap[g]?=some (.cells cs.toArray 64 (0,0))
 len:cs.length=cap*2
 cap:cap<=maxLen
theorem Rw.open (h:w.ownsRow base 64 2 (.slice (some ⟨g,0,none⟩) n cap) n xs):n<=cap/\∃cs,Rw w base g cap cs/\cs.take (n*2)=xs:=by
 obtain⟨h1,h2⟩:=h;rcases h2 with⟨e,_⟩|⟨g',cp,cur,e,hb,hg,hn,hm,hs,ht⟩
 ·cases e
 ·injection e with e1 _ e3;injection e1 with e1;injection e1 with e1;subst e1;subst e3;obtain⟨cs⟩:=cur;exact⟨hn,cs,⟨hb,hg,by simpa using hs,hm⟩,ht⟩
theorem Rw.own {m:Nat}(h:Rw w base g cap cs)(hm:m<=cap):w.ownsRow base 64 2 (.slice (some ⟨g,0,none⟩) m cap) m (cs.take (m*2)):=⟨by rw[ap5,h.len];omega,.inr ⟨g,cap,_,rfl,h.low,h.row,hm,h.cap,by simpa using h.len,rfl⟩⟩
theorem Rw.cell (h:Rw w base g cap cs){u:Value}(hu:cs[j]?=some u):w.cell? ⟨g,j,none⟩=some u:=by rw[cr h.row];simpa using hu
theorem Rw.isS (h:Rw w base g cap cs)(hj:j<cap*2):(w.cell? ⟨g,j,none⟩).isSome=true:=by rw[h.cell (api (by rw[h.len];exact hj))];rfl
theorem Rw.fz (h:Rw w base g cap cs)(j:Nat):w.frozen? ⟨g,j,none⟩=false:=lh h.row
theorem Rw.lt (h:Rw w base g cap cs):g<w.heap.size:=(gs h.row).1
theorem Rw.of (h:Rw w base g cap cs)(q:Gr w w'):Rw w' base g cap cs:=⟨h.low,aX q h.row,h.len,h.cap⟩
theorem hsC {t:Nat}(g:Nat):∀(vs:List Value) (o:Nat) (w:World) (cs:List Value),w.heap[g]?=some (.cells cs.toArray t (0,0))→o+vs.length≤cs.length→(w.setCells g o vs).heap[g]?=some (.cells (cs.take o++vs++cs.drop (o+vs.length)).toArray t (0,0))
 | [],o,w,cs,h,_=>by simp[World.setCells,h]
 |v::r,o,w,cs,h,hl=>by
  rw[World.setCells];have h1:=aul w g o _ _ v h;simp only[apl]at h1;simp only[apH]at hl;rw[hsC g r (o+1) _ (cs.set o v) h1 (by simp;omega)];have e1:(cs.set o v).take (o+1)=cs.take o++[v]:=by
   rw[apU,List.take_set,List.set_eq_of_length_le (by simp;omega)];simp[show o<cs.length by omega]
  have e2:(cs.set o v).drop (o+1+r.length)=cs.drop (o+(r.length+1)):=by
   rw[List.drop_set_of_lt (by omega)];congr 1;omega
  rw[e1,e2];simp only[apH,aqa,apZ,apO]
theorem chC {g:Nat}{a w:World}(h:Ch g a w):∀(vs:List Value) (o:Nat),Ch g a (w.setCells g o vs)
 | [],o=>h
 |v::r,o=>by rw[World.setCells];exact chC (h.setCell o v) r (o+1)
theorem Rw.set (h:Rw w base g cap cs){o:Nat}{vs:List Value}(ho:o+vs.length<=cap*2):Rw (w.setCells g o vs) base g cap (cs.take o++vs++cs.drop (o+vs.length)):=⟨h.low,hsC g vs o w cs h.row (by rw[h.len];exact ho),by simp only[apo,ap5,aqh,h.len];omega,h.cap⟩
theorem Rw.keep (h:Rw w base g cap cs)(q:Ch g w w')(k:Nat)(o:Array Value)(t:Nat)(f:Nat×Nat)(ht:t≠64)(hk:w.heap[k]?=some (.cells o t f)):w'.heap[k]?=w.heap[k]?:=q.block k (gs hk).1 (fun e=>aa hk h.row ht (by injection e))
theorem Bx.ch (B:Bx w b1 bs xs)(h:Rw w base g cap cs)(q:Ch g w w'):Bx w' b1 bs xs:=B.to fun k o f hk=>h.keep q k o _ f (by decide) hk
theorem WJ (h:Gr a w)(hg:a.heap.size<=g)(q:Ch g w w'):Gr a w':=Gr.grown h q (fun k e=>by injection e with e;omega)
theorem Rw.bq (h:Rw w base g cap cs)(B:Bx w b1 bs (cs.take (n*2)))(hl:bs.length=n):Bq w (some ⟨g,0,none⟩) n bs:=
 ⟨hl,fun hn=>⟨g,0,rfl,h.lt,fun j x hj=>by
  obtain⟨v,h1,h2,h3⟩:=B.at_ j x hj;obtain⟨a,c,rfl⟩:=h3.shape;rw[apS]at h1 h2;split at h1
  ·split at h2
   ·rw[apu];exact⟨h.cell h1,a,c,h.cell h2⟩
   ·cases h2
  ·cases h1⟩⟩
def Im (m:Nat):List Value:=(Builtin.zeroCells #[.int .u32 0,.slice none 0 0] m).toList
theorem sG (m:Nat):(Im m).length=m*2:=by simp[Im,size_zeroCells]
theorem RZ (m:Nat):∀u∈Im m,u.oneCell'=true:=fun u hu=>by simp only[Im,Builtin.zeroCells]at hu;simp at hu;obtain⟨i,_,rfl⟩:=hu;rcases ark i with e|e<;>simp[e]<;>rfl
theorem tT {P:Program}(w:World)(t e ty:TypeId)(ht:P.underlying t=some (.slice e))(hv:∀w,(zeroValue e).run P w=.ok (.agg #[.int .u32 0,.slice none 0 0]) w)(b o n c:Nat)(hn:0<n)(hc:∀j,j<n*2->(w.cell? ⟨b,o+j,none⟩).isSome=true)(hf:∀j,j<n*2->w.frozen? ⟨b,o+j,none⟩=false):(Builtin.clear_ #[t] ty #[.slice (some ⟨b,o,none⟩) n c]).run P w=.ok (.tuple #[]) (w.setCells b o (Im n)):=by have hst:=run_storeCells_cells (P:=P) b o (Im n) 0 w (by rw[sG];simpa using hc) (by rw[sG];simpa using hf) (RZ n);simp only[aqt]at hst;obtain⟨m,rfl⟩:∃m,n=m+1:=⟨n-1,by omega⟩;have hzc:(Value.agg #[.int .u32 0,.slice none 0 0]).cells=#[.int .u32 0,.slice none 0 0]:=rfl;unfold Im at hst ⊢;simp[Builtin.clear_,run_underlying ht,hv,hzc,hst]
end Kc
end Go.Proofs.YtiadhbmnfjfioaaGreatDoor
