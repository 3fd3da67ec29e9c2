/- ours -/
import Derived.Test.YtiadhbmnfjfioaaGreatDoorX22
set_option linter.unusedVariables false
set_option linter.unusedSimpArgs false
set_option maxHeartbeats 8000000
set_option maxRecDepth 100000
set_option linter.unusedSectionVars false
namespace Go.Proofs.YtiadhbmnfjfioaaGreatDoor
open Go.Proofs.Tryz
open Go.ChangeShapes Go.WideShapes Go.ChangeAt Go.RowKit
variable [Inhabited Hc.bN]
namespace Gc
open Mm Hh Hc

variable {ty :Nat} {rs :List Value}
theorem dK {w:World}{base g:Nat}{h:Hv}{l:List UInt8}{os:List Int}{ss:List (Int×Int)}(I:In ty rs w base g h l os ss)(c:Int):Calls prog 134 #[.pointer (some ⟨g,0,none⟩),.int .i64 c] w fun e w'=>e=.returned (.tuple #[])/\In ty rs w' base g (h.trap c) l os ss/\Ch g w w':=by
 obtain⟨c0,rfl,I⟩:=I;have k1:=(I.hcell (by omega)).trans (aW I.ok 3);have k2:=(I.hcell (by omega)).trans (aW I.ok 4);have fz:=I.fz;have o1:Hv.Ok { c0.h with state:=2 }:=⟨I.ok.len,I.ok.reg,I.ok.nH,I.ok.jV,I.ok.x9,I.ok.zO⟩;have J:Hid (Inv ty rs ((w.setCell ⟨g,35,none⟩ (.int .i64 2)).setCell ⟨g,36,none⟩ (.int .i64 c)) base g { c0 with h:=c0.h.trap c } l os ss):=
  (I.set (by omega) (mR I.ok 2) o1).set (c:={ c0 with h:={ c0.h with state:=2 } }) (by omega) (wm o1 c) (I.ok.trap c)
 generalize c0.h.state=x1 at k1;generalize c0.h.cause=x2 at k2;go_enter func134,ntmps134;go_wp2;go_end0;exact⟨rfl,⟨_,rfl,J.out⟩,((Ch.refl g w).setCell _ _).setCell _ _⟩
theorem yl {w:World}{base g:Nat}{h:Hv}{l:List UInt8}{os:List Int}{ss:List (Int×Int)}(I:In ty rs w base g h l os ss)(r x:Int)(h0:0<=r)(h1:r<32)(hx0:0<=x)(hx1:x<4294967296):Calls prog 162 #[.pointer (some ⟨g,0,none⟩),.int .i64 r,.int .u32 x] w fun e w'=>e=.returned (.tuple #[])/\In ty rs w' base g (h.set r.toNat x) l os ss/\Ch g w w':=by
 obtain⟨c0,rfl,I⟩:=I;obtain⟨r,rfl⟩:=apt h0;simp only[apG];by_cases hr:r=0
 ·subst hr;have J:=kH I;go_enter func162,ntmps162;go_wp2;go_end0;exact⟨rfl,⟨c0,rfl,J.out⟩,Ch.refl g w⟩
 ·have hr2:r<32:=by omega
  have k1:=I.reg hr2;have fz:=I.fz;have e:c0.h.set r x={ c0.h with regs:=c0.h.regs.set r x }:=at6 hr;have ok:=I.ok.set r hx0 hx1;rw[e]at ok ⊢;have J:Hid _:=I.set (by omega) (yc I.ok hr2 x) ok;have hr':¬(r:Int)=0:=by omega
  generalize rg c0.h r=y at k1;go_enter func162,ntmps162;go_wp2;go_end0;exact⟨rfl,⟨_,rfl,J.out⟩,(Ch.refl g w).setCell _ _⟩
theorem dY {w:World}{base g:Nat}{h:Hv}{l:List UInt8}{os:List Int}{ss:List (Int×Int)}(I:In ty rs w base g h l os ss)(hl:l.length<=140737488351232)(op a:Int)(h0:0<=a)(h1:a<4294967296):Calls prog 177 #[.pointer (some ⟨g,0,none⟩),.int .i64 op,.int .u32 a] w fun e w'=>e=.returned (.tuple #[.int .u32 (aN l op a),.bool (bM l op a)])/\In ty rs w' base g (if bM l op a=true then h else h.trap 3) l os ss/\Ch g w w':=by
 have T:Hid (∀c,_):=fun c=>dK I c
 have HI:=kH I;obtain⟨c0,rfl,I⟩:=I;obtain⟨ao,cap,hm,M⟩:=I.mem.mem;have k1:w.cell? ⟨g,37,none⟩=some (.slice ao l.length cap):=(I.dJ 0).trans (by rw[hm];rfl);have L:=kH (Mm.dY cap op a M hl h0 h1);generalize aN l op a=X at *
 generalize bM l op a=B at *
 generalize l.length=n at *
 cases B
 ·go_enter func177,ntmps177;go_wp2_with fail;refine L.out.mono ?_;rintro e w' ⟨rfl,rfl⟩;go_wp2_with fail;refine(T.out 3).mono ?_;rintro e w2 ⟨rfl,I2,C2⟩;have HI2:=kH I2;go_wp2;go_ret2;exact⟨rfl,HI2.out,C2⟩
 ·go_enter func177,ntmps177;go_wp2_with fail;refine L.out.mono ?_;rintro e w' ⟨rfl,rfl⟩;go_wp2;go_ret2;exact⟨rfl,HI.out,Ch.refl _ _⟩
theorem lD {w:World}{base g:Nat}{h:Hv}{l:List UInt8}{os:List Int}{ss:List (Int×Int)}(I:In ty rs w base g h l os ss)(hl:l.length<=140737488351232)(op a x:Int)(h0:0<=a)(h1:a<4294967296)(hx0:0<=x)(hx1:x<4294967296)(ok:dX l op a=false):Calls prog 178 #[.pointer (some ⟨g,0,none⟩),.int .i64 op,.int .u32 a,.int .u32 x] w fun e w'=>e=.returned (.tuple #[])/\In ty rs w' base g (h.trap 4) l os ss/\Ch g w w':=by
 have T:Hid (∀W,In ty rs W base g h l os ss->∀c,_):=fun W I c=>dK I c
 have HI:=kH I;obtain⟨c0,rfl,I⟩:=I;obtain⟨ao,cap,hm,M⟩:=I.mem.mem;have k1:w.cell? ⟨g,37,none⟩=some (.slice ao l.length cap):=(I.dJ 0).trans (by rw[hm];rfl);have L:Hid (Calls prog 189 #[.slice ao l.length cap,.int .i64 op,.int .u32 a,.int .u32 x] w fun e w'=>∃QQ n' cap',e=.returned (.tuple #[.slice QQ n' cap',.bool false])/\Gr w w'):=by
  have:=Mm.dO cap op a x M hl h0 h1 hx0 hx1;rw[ok]at this;exact this.mono fun e w' ⟨a1,n1,c1,e1,_,e3⟩=>⟨a1,n1,c1,e1,e3⟩
 generalize l.length=n at *
 go_enter func178,ntmps178;go_wp2_with fail;refine L.out.mono ?_;rintro e w1 ⟨a1,n1,c1,rfl,G1⟩;have HI1:=kH (HI.out.of G1);have oQ:=kH ((Ch.refl g w).gr G1);go_wp2_with fail;refine(T.out _ HI1.out 4).mono ?_;rintro e w2 ⟨rfl,I2,C2⟩;have HI2:=kH I2;have ll:=kH (oQ.out.trans C2);go_wp2;refine auc (auV results178 _ _ _) rfl ?_;exact⟨rfl,HI2.out,ll.out⟩
theorem iZ {w:World}{base g:Nat}{h:Hv}{l:List UInt8}{os:List Int}{ss:List (Int×Int)}(I:In ty rs w base g h l os ss)(T:Ts w base)(hl:l.length<=140737488351232)(hss:ss.length<=1000000)(op a x:Int)(h0:0<=a)(h1:a<4294967296)(hx0:0<=x)(hx1:x<4294967296)(ok:dX l op a=true):Calls prog 178 #[.pointer (some ⟨g,0,none⟩),.int .i64 op,.int .u32 a,.int .u32 x] w fun e w'=>e=.returned (.tuple #[])/\In ty rs w' base g h (il l op a x) os (ss++[(a,((gG op:Nat):Int))])/\Fr ty base w w':=by
 obtain⟨c0,rfl,I⟩:=I;obtain⟨ao,cap,hm,M⟩:=I.mem.mem;have k1:w.cell? ⟨g,37,none⟩=some (.slice ao l.length cap):=(I.dJ 0).trans (by rw[hm];rfl);have L:=kH (wE cap op a x M hl h0 h1 hx0 hx1 ok);have hk:=Hc.xZ (x:=x) ok;have hop:=Fy ok;obtain⟨i0,hi,hz0,hz1,hz2⟩:=auz WI;generalize il l op a x=k at *
 have HI:=kH I;have HT:=kH T;rcases hop with rfl|rfl|rfl
 ·rw[show((gG 16:Nat):Int)=1 from rfl];go_enter func178,ntmps178;go_wp2_with fail;refine L.out.mono ?_;rintro e w1 ⟨rfl,R1,G1⟩;have J:=HI.out.stored G1 R1 hk;have q1:=(Gr.cell G1 _ (by exact HI.out.lt)).trans k1;have q2:=(HI.out.of G1).fz 37;have B:Fr ty base w (w1.setCell ⟨g,37,none⟩ (.slice (some ⟨w.heap.size,0,none⟩) l.length l.length)):=HI.out.rF.below (((Ch.refl g w).gr G1).setCell _ _);go_wp2_with fail;generalize w1.setCell ⟨g,37,none⟩ (.slice (some ⟨w.heap.size,0,none⟩) l.length l.length)=w2 at *
  have KI:=J.dJ 2;have fz:=J.fz;have hg:=J.lt;have ks:=(nO HT.out B.below).sizes 16 1 rfl;have HJ:=kH J;have HB:=kH B;go_region_law (refine aZ rfl (.tmp 33) (.tmp 41) 140 rfl base 175 i0 _ 2 8 underlying140 hi hz0 hz1 hz2 rfl (by decide) c0.av ss.length (rE ss) (by simp[Act.eval,Act.put]) (aC HJ.out.av (by repeat (first|exact Gr.refl _|refine Gr.drew ?_|refine Gr.alloc ?_ _))) ⟨w2.heap.size,0,none⟩ 1 1 [.int .u32 a,.int .u32 (IntKind.u32.wrap (a+1))] (by simp[Act.eval,Act.put]) rfl (dP (by simp) (by simp)) (mU _ _) (by unfold maxLen;omega) (by omega) (by have:=HJ.out.ay;simp;omega) ?_;intro v' w' hown hgrow;obtain⟨g',cp,rfl⟩:=dh hown (by omega);obtain⟨c39,f39,F⟩:=HJ.out.gJ (n:=ss.length+1) (by repeat (first|exact Gr.refl _|refine Gr.drew ?_|refine Gr.alloc ?_ _)) hgrow (ss':=ss++[(a,1)]) (by simp) (by rw[jX];exact hown);have HF:Hid _:=F;clear F hown hgrow)
  all_goals
   go_end0;exact⟨rfl,HF.out.1.rF,HB.out.trans HF.out.2⟩
 ·rw[show((gG 17:Nat):Int)=2 from rfl];go_enter func178,ntmps178;go_wp2_with fail;refine L.out.mono ?_;rintro e w1 ⟨rfl,R1,G1⟩;have J:=HI.out.stored G1 R1 hk;have q1:=(Gr.cell G1 _ (by exact HI.out.lt)).trans k1;have q2:=(HI.out.of G1).fz 37;have B:Fr ty base w (w1.setCell ⟨g,37,none⟩ (.slice (some ⟨w.heap.size,0,none⟩) l.length l.length)):=HI.out.rF.below (((Ch.refl g w).gr G1).setCell _ _);go_wp2_with fail;generalize w1.setCell ⟨g,37,none⟩ (.slice (some ⟨w.heap.size,0,none⟩) l.length l.length)=w2 at *
  have KI:=J.dJ 2;have fz:=J.fz;have hg:=J.lt;have ks:=(nO HT.out B.below).sizes 17 2 rfl;have HJ:=kH J;have HB:=kH B;go_region_law (refine aZ rfl (.tmp 33) (.tmp 41) 140 rfl base 175 i0 _ 2 8 underlying140 hi hz0 hz1 hz2 rfl (by decide) c0.av ss.length (rE ss) (by simp[Act.eval,Act.put]) (aC HJ.out.av (by repeat (first|exact Gr.refl _|refine Gr.drew ?_|refine Gr.alloc ?_ _))) ⟨w2.heap.size,0,none⟩ 1 1 [.int .u32 a,.int .u32 (IntKind.u32.wrap (a+2))] (by simp[Act.eval,Act.put]) rfl (dP (by simp) (by simp)) (mU _ _) (by unfold maxLen;omega) (by omega) (by have:=HJ.out.ay;simp;omega) ?_;intro v' w' hown hgrow;obtain⟨g',cp,rfl⟩:=dh hown (by omega);obtain⟨c39,f39,F⟩:=HJ.out.gJ (n:=ss.length+1) (by repeat (first|exact Gr.refl _|refine Gr.drew ?_|refine Gr.alloc ?_ _)) hgrow (ss':=ss++[(a,2)]) (by simp) (by rw[jX];exact hown);have HF:Hid _:=F;clear F hown hgrow)
  all_goals
   go_end0;exact⟨rfl,HF.out.1.rF,HB.out.trans HF.out.2⟩
 ·rw[show((gG 18:Nat):Int)=4 from rfl];go_enter func178,ntmps178;go_wp2_with fail;refine L.out.mono ?_;rintro e w1 ⟨rfl,R1,G1⟩;have J:=HI.out.stored G1 R1 hk;have q1:=(Gr.cell G1 _ (by exact HI.out.lt)).trans k1;have q2:=(HI.out.of G1).fz 37;have B:Fr ty base w (w1.setCell ⟨g,37,none⟩ (.slice (some ⟨w.heap.size,0,none⟩) l.length l.length)):=HI.out.rF.below (((Ch.refl g w).gr G1).setCell _ _);go_wp2_with fail;generalize w1.setCell ⟨g,37,none⟩ (.slice (some ⟨w.heap.size,0,none⟩) l.length l.length)=w2 at *
  have KI:=J.dJ 2;have fz:=J.fz;have hg:=J.lt;have ks:=(nO HT.out B.below).sizes 18 4 rfl;have HJ:=kH J;have HB:=kH B;go_region_law (refine aZ rfl (.tmp 33) (.tmp 41) 140 rfl base 175 i0 _ 2 8 underlying140 hi hz0 hz1 hz2 rfl (by decide) c0.av ss.length (rE ss) (by simp[Act.eval,Act.put]) (aC HJ.out.av (by repeat (first|exact Gr.refl _|refine Gr.drew ?_|refine Gr.alloc ?_ _))) ⟨w2.heap.size,0,none⟩ 1 1 [.int .u32 a,.int .u32 (IntKind.u32.wrap (a+4))] (by simp[Act.eval,Act.put]) rfl (dP (by simp) (by simp)) (mU _ _) (by unfold maxLen;omega) (by omega) (by have:=HJ.out.ay;simp;omega) ?_;intro v' w' hown hgrow;obtain⟨g',cp,rfl⟩:=dh hown (by omega);obtain⟨c39,f39,F⟩:=HJ.out.gJ (n:=ss.length+1) (by repeat (first|exact Gr.refl _|refine Gr.drew ?_|refine Gr.alloc ?_ _)) hgrow (ss':=ss++[(a,4)]) (by simp) (by rw[jX];exact hown);have HF:Hid _:=F;clear F hown hgrow)
  all_goals
   go_end0;exact⟨rfl,HF.out.1.rF,HB.out.trans HF.out.2⟩
theorem dO {w:World}{base g:Nat}{h:Hv}{l:List UInt8}{os:List Int}{ss:List (Int×Int)}(I:In ty rs w base g h l os ss)(T:Ts w base)(hl:l.length<=140737488351232)(hss:ss.length<=1000000)(op a x:Int)(h0:0<=a)(h1:a<4294967296)(hx0:0<=x)(hx1:x<4294967296):Calls prog 178 #[.pointer (some ⟨g,0,none⟩),.int .i64 op,.int .u32 a,.int .u32 x] w fun e w'=>e=.returned (.tuple #[])/\In ty rs w' base g (aH h l op a x).h (aH h l op a x).m os (ss++(aH h l op a x).av)/\Fr ty base w w':=by
 unfold aH;cases ok:dX l op a with
 |false=>
  refine(lD I hl op a x h0 h1 hx0 hx1 ok).mono ?_;rintro e w' ⟨rfl,J,C⟩;exact⟨rfl,by simpa using J,I.below C⟩
 |true=>exact iZ I T hl hss op a x h0 h1 hx0 hx1 ok
theorem tL {w:World}{base g:Nat}{h:Hv}{l:List UInt8}{os:List Int}{ss:List (Int×Int)}(I:In ty rs w base g h l os ss)(hos:os.length<=1000000)(Yu:rg h 17=1):Calls prog 181 #[.pointer (some ⟨g,0,none⟩)] w fun e w'=>e=.returned (.tuple #[])/\In ty rs w' base g h l (os++[rg h 10]) ss/\Fr ty base w w':=by
 obtain⟨c0,rfl,I⟩:=I;have k17:w.cell? ⟨g,17,none⟩=some (.int .u32 1):=by rw[<-Yu];exact I.reg (by omega)
 have k10:w.cell? ⟨g,10,none⟩=some (.int .u32 (rg c0.h 10)):=I.reg (by omega);have k38:=I.dJ 1;have fz:=I.fz;have hg:=I.lt;have HJ:Hid _:=I;obtain⟨i0,hi,hz0,hz1,hz2⟩:=auz wC;generalize rg c0.h 10=x at *
 go_enter func181,ntmps181;go_wp2_with fail;go_region_law (refine aZ rfl (.tmp 22) (.tmp 29) 36 rfl base 37 i0 _ 1 4 underlying36 hi hz0 hz1 hz2 rfl (by decide) c0.out os.length (os.map (Value.int .u32)) (by simp[Act.eval,Act.put]) (aC HJ.out.out (by repeat (first|exact Gr.refl _|refine Gr.drew ?_|refine Gr.alloc ?_ _))) ⟨w.heap.size,0,none⟩ 1 1 [.int .u32 x] (by simp[Act.eval,Act.put]) rfl (one_cell (by simp)) (one_one _) (by unfold maxLen;omega) (by omega) (by have:=HJ.out.ay;simp;omega) ?_;intro v' w' hown hgrow;obtain⟨g',cp,rfl⟩:=dh hown (by omega);obtain⟨c38,f38,F⟩:=HJ.out.qF (n:=os.length+1) (by repeat (first|exact Gr.refl _|refine Gr.drew ?_|refine Gr.alloc ?_ _)) hgrow (os':=os++[x]) (by simp) (by rw[aqb];exact hown);have HF:Hid _:=F;clear F hown hgrow)
 all_goals
  go_end0;exact⟨rfl,HF.out.1.rF,HF.out.2⟩
theorem tN {w:World}{base g:Nat}{h:Hv}{l:List UInt8}{os:List Int}{ss:List (Int×Int)}(I:In ty rs w base g h l os ss)(Yu:¬rg h 17=1):Calls prog 181 #[.pointer (some ⟨g,0,none⟩)] w fun e w'=>e=.returned (.tuple #[])/\In ty rs w' base g (if rg h 17=0 then h.halt else h.trap 5) l os ss/\Fr ty base w w':=by
 have T:Hid (∀c,Calls prog 134 #[.pointer (some ⟨g,0,none⟩),.int .i64 c] w fun e w'=>e=.returned (.tuple #[])/\In ty rs w' base g (h.trap c) l os ss/\Ch g w w'):=fun c=>dK I c
 have HI:=kH I;obtain⟨c0,rfl,I⟩:=I;have k17:w.cell? ⟨g,17,none⟩=some (.int .u32 (rg c0.h 17)):=I.reg (by omega);have QS:=(I.hcell (by omega)).trans (aW I.ok 3);have fz:=I.fz;have o1:=I.ok.halt;have HJ:=kH (I.set (by omega) (mR I.ok 1) o1);generalize c0.h.state=y at *
 generalize hx:rg c0.h 17=x at *
 by_cases h0:x=0
 ·subst h0;rw[at7 rfl];clear T;go_enter func181,ntmps181;go_wp2_with fail;go_end0;exact⟨rfl,HJ.out.rF,HI.out.below ((Ch.refl g w).setCell _ _)⟩
 ·rw[at6 h0];have b0:(x ==0)=false:=by simp[h0]
  have b1:(x ==1)=false:=by simp[Yu]
  go_enter func181,ntmps181;go_wp2_with fail;refine(T.out 5).mono ?_;rintro e w' ⟨rfl,I2,C2⟩;have HI2:=kH I2;have ll:=kH C2;go_wp2_with fail;go_end0;exact⟨rfl,HI2.out,HI.out.below ll.out⟩
theorem tO {w:World}{base g:Nat}{h:Hv}{l:List UInt8}{os:List Int}{ss:List (Int×Int)}(I:In ty rs w base g h l os ss)(hos:os.length<=1000000):Calls prog 181 #[.pointer (some ⟨g,0,none⟩)] w fun e w'=>e=.returned (.tuple #[])/\In ty rs w' base g (bA h l).h l (os++(bA h l).out) ss/\Fr ty base w w':=by
 unfold bA;by_cases h1:rg h 17=1
 ·rw[ak,at7 h1];exact tL I hos h1
 ·refine(tN I h1).mono ?_;rintro e w' ⟨rfl,J,B⟩;refine⟨rfl,?_,B⟩;by_cases h0:rg h 17=0
  ·rw[at7 h0]at J ⊢;simpa using J
  ·rw[at6 h0]at J;rw[at6 h0,at6 h1];simpa using J
theorem lV {w:World}{base g:Nat}{h:Hv}{l:List UInt8}{os:List Int}{ss:List (Int×Int)}(I:In ty rs w base g h l os ss)(hl:l.length<=140737488351232)(a:Int)(h0:0<=a)(h1:a<4294967296):Calls prog 197 #[.pointer (some ⟨g,0,none⟩),.int .u32 a] w fun e w'=>e=.returned (bQ (gB h l a).res)/\In ty rs w' base g (gB h l a).h l os ss/\Fr ty base w w':=by
 have L:=dY I hl 13 a h0 h1;unfold gB;have HI:=kH I;clear I;cases hB:bM l 13 a with
 |false=>
  have hX:aN l 13 a=0:=by unfold aN;rw[hB];rfl
  rw[hB,hX]at L;have HL:=kH L;clear L hX hB;go_enter func197,ntmps197;go_wp2_with fail;refine HL.out.mono ?_;rintro e w' ⟨rfl,I2,C2⟩;have HI2:=kH I2;have ll:=kH C2;clear I2 C2 HL;go_wp2_with fail;go_ret2;exact⟨rfl,HI2.out,HI.out.below ll.out⟩
 |true=>
  rw[hB]at L;have HL:Hid (Calls prog 177 #[.pointer (some ⟨g,0,none⟩),.int .i64 13,.int .u32 a] w fun e w'=>e=.returned (.tuple #[.int .u32 (aN l 13 a),.bool true])/\In ty rs w' base g h l os ss/\Ch g w w'):=L;clear L hB;generalize aN l 13 a=X at *
  go_enter func197,ntmps197;go_wp2_with fail;refine HL.out.mono ?_;rintro e w' ⟨rfl,I2,C2⟩;have ll:Hid (Ch g w w'):=C2;obtain⟨c0,rfl,I⟩:=I2;have k1:w'.cell? ⟨g,33,none⟩=some (.bool c0.h.held):=(I.hcell (by omega)).trans (aW I.ok 1);have k2:w'.cell? ⟨g,34,none⟩=some (.int .u32 c0.h.aP):=(I.hcell (by omega)).trans (aW I.ok 2);have fz:=I.fz;have o1:Hv.Ok { c0.h with held:=true }:=⟨I.ok.len,I.ok.reg,I.ok.nH,I.ok.jV,I.ok.x9,I.ok.zO⟩;have HJ:Hid (Inv ty rs ((w'.setCell ⟨g,33,none⟩ (.bool true)).setCell ⟨g,34,none⟩ (.int .u32 a)) base g { c0 with h:=c0.h.hold true a } l os ss):=
   (I.set (by omega) (jW I.ok true) o1).set (c:={ c0 with h:={ c0.h with held:=true } }) (by omega) (gI o1 a) (I.ok.hold true h0 h1)
  generalize c0.h.held=x1 at *
  generalize c0.h.aP=x2 at *
  go_wp2_with fail;go_ret2;exact⟨rfl,HJ.out.rF,HI.out.below ((ll.out.setCell _ _).setCell _ _)⟩
theorem jN {w:World}{base g:Nat}{h:Hv}{l:List UInt8}{os:List Int}{ss:List (Int×Int)}(I:In ty rs w base g h l os ss)(T:Ts w base)(hl:l.length<=140737488351232)(hss:ss.length<=1000000)(a b:Int)(h0:0<=a)(h1:a<4294967296)(hx0:0<=b)(hx1:b<4294967296)(ok:bM l 13 a=true):Calls prog 198 #[.pointer (some ⟨g,0,none⟩),.int .u32 a,.int .u32 b] w fun e w'=>e=.returned (.int .u32 ((eU h l a b).res.getD 0))/\In ty rs w' base g (eU h l a b).h (eU h l a b).m os (ss++(eU h l a b).av)/\Fr ty base w w':=by
 unfold eU;rw[at7 ok];have HI:Hid (In ty rs w base g h l os ss):=I;obtain⟨c0,rfl,I⟩:=I;have k1:=(I.hcell (by omega)).trans (aW I.ok 1);have k2:=(I.hcell (by omega)).trans (aW I.ok 2);have fz:=I.fz;have o1:Hv.Ok { c0.h with held:=false }:=⟨I.ok.len,I.ok.reg,I.ok.nH,I.ok.jV,I.ok.x9,I.ok.zO⟩;have J:Inv ty rs ((w.setCell ⟨g,33,none⟩ (.bool false)).setCell ⟨g,34,none⟩ (.int .u32 0)) base g { c0 with h:=c0.h.hold false 0 } l os ss:=
  (I.set (by omega) (jW I.ok false) o1).set (c:={ c0 with h:={ c0.h with held:=false } }) (by omega) (gI o1 0) (I.ok.hold false (x:=0) (by omega) (by omega))
 have B:Fr ty base w ((w.setCell ⟨g,33,none⟩ (.bool false)).setCell ⟨g,34,none⟩ (.int .u32 0)):=HI.out.below (((Ch.refl g w).setCell _ _).setCell _ _);have S:=dO J.rF (nO T B.below) hl hss 18 a b h0 h1 hx0 hx1;have e1:aH (c0.h.hold false 0) l 18 a b=⟨c0.h.hold false 0,il l 18 a b,[],[(a,4)],none⟩:=by unfold aH;rw[at7 (bG ok)];rfl
 have HS:Hid (Calls prog 178 #[.pointer (some ⟨g,0,none⟩),.int .i64 18,.int .u32 a,.int .u32 b] ((w.setCell ⟨g,33,none⟩ (.bool false)).setCell ⟨g,34,none⟩ (.int .u32 0)) fun e w'=>e=.returned (.tuple #[])/\In ty rs w' base g (c0.h.hold false 0) (il l 18 a b) os (ss++[(a,4)])/\Fr ty base ((w.setCell ⟨g,33,none⟩ (.bool false)).setCell ⟨g,34,none⟩ (.int .u32 0)) w'):=by
  have S1:=S;rw[e1]at S1;exact S1
 have HJ:=kH J.rF;have HB:=kH B;generalize c0.h.held=x1 at *
 generalize c0.h.aP=x2 at *
 cases x1 with
 |false=>
  rw[at6 (by simp)];go_enter func198,ntmps198;go_wp2_with fail;go_ret;exact⟨rfl,by simpa using HJ.out,HB.out⟩
 |true=>
  by_cases ha:x2=a
  ·rw[at7 ⟨rfl,ha⟩];have ba:(x2 ==a)=true:=by simp[ha]
   go_enter func198,ntmps198;go_wp2_with fail;refine HS.out.mono ?_;rintro e w' ⟨rfl,I2,B2⟩;have HI2:=kH I2;have HB2:=kH (HB.out.trans B2);go_wp2_with fail;go_ret;exact⟨rfl,HI2.out,HB2.out⟩
  ·rw[at6 (by simp[ha])];have ba:(x2 ==a)=false:=by simp[ha]
   go_enter func198,ntmps198;go_wp2_with fail;go_ret;exact⟨rfl,by simpa using HJ.out,HB.out⟩
theorem uz {w:World}{base g:Nat}{h:Hv}{l:List UInt8}{os:List Int}{ss:List (Int×Int)}(I:In ty rs w base g h l os ss)(T:Ts w base)(hl:l.length<=140737488351232)(hss:ss.length<=1000000)(op a b:Int)(h0:0<=a)(h1:a<4294967296)(hx0:0<=b)(hx1:b<4294967296):Calls prog 180 #[.pointer (some ⟨g,0,none⟩),.int .i64 op,.int .u32 a,.int .u32 b] w fun e w'=>e=.returned (bQ (aK h l op a b).res)/\In ty rs w' base g (aK h l op a b).h (aK h l op a b).m os (ss++(aK h l op a b).av)/\Fr ty base w w':=by
 have R:=kH (lV I hl a h0 h1);have Tr:Hid (∀c,_):=fun c=>dK I c
 have SH:Hid (bM l 13 a=true->_):=fun ok=>jN I T hl hss a b h0 h1 hx0 hx1 ok
 have wv:=W.aN l 13 a;have wa:=W.mO (op:=op) wv ⟨hx0,hx1⟩;have St:=kH (dO I T hl hss 18 a _ h0 h1 wa.1 wa.2);have HI:=kH I;obtain⟨c0,rfl,I⟩:=I;obtain⟨ao,cap,hm,M⟩:=I.mem.mem;have k1:w.cell? ⟨g,37,none⟩=some (.slice ao l.length cap):=(I.dJ 0).trans (by rw[hm];rfl);have L:=kH (Mm.dY cap 13 a M hl h0 h1);have Am:=kH (Ww.Fu op _ b w wv.1 wv.2 hx0 hx1);by_cases h46:op=46
 ·have e:aK c0.h l op a b=gB c0.h l a:=at7 h46;have em:(gB c0.h l a).m=l/\(gB c0.h l a).av=[]:=by unfold gB;split<;>exact⟨rfl,rfl⟩
  rw[e,em.1,em.2,apz];have b46:(op ==46)=true:=by simp[h46]
  generalize gB c0.h l a=E at *
  unfold bQ at *
  go_enter func180,ntmps180;go_wp2_with fail;refine R.out.mono ?_;rintro e w' ⟨rfl,I2,B2⟩;have HI2:=kH I2;have HB2:=kH B2;go_wp2_with fail;go_ret2;exact⟨rfl,HI2.out,HB2.out⟩
 have b46:(op ==46)=false:=by simp[h46]
 cases ok:bM l 13 a with
 |false=>
  have e:aK c0.h l op a b=⟨c0.h.trap 4,l,[],[],none⟩:=by
   unfold aK eU iN;rw[at6 h46,ok];simp
  rw[e,apz];rw[ok]at L;have L2:=kH L;generalize aN l 13 a=X at *
  generalize l.length=n at *
  go_enter func180,ntmps180;go_wp2_with fail;refine L2.out.mono ?_;rintro e w' ⟨rfl,rfl⟩;go_wp2_with fail;refine(Tr.out 4).mono ?_;rintro e w2 ⟨rfl,I2,C2⟩;have HI2:=kH I2;have ll:=kH C2;go_wp2_with fail;go_ret2;exact⟨rfl,HI2.out,HI.out.below ll.out⟩
 |true=>
  rw[ok]at L;have L2:=kH L;by_cases h47:op=47
  ·have e:aK c0.h l op a b=eU c0.h l a b:=by unfold aK;rw[at6 h46,at7 h47]
   have er:bQ (eU c0.h l a b).res=.tuple #[.int .u32 ((eU c0.h l a b).res.getD 0),.bool true]:=by
    unfold bQ eU;rw[at7 ok];split<;>rfl
   rw[e,er];have S2:=kH (SH.out ok);have b47:(op ==47)=true:=by simp[h47]
   generalize eU c0.h l a b=E at *
   generalize E.res.getD 0=Y at *
   generalize aN l 13 a=X at *
   generalize l.length=n at *
   go_enter func180,ntmps180;go_wp2_with fail;refine L2.out.mono ?_;rintro e w' ⟨rfl,rfl⟩;go_wp2_with fail;refine S2.out.mono ?_;rintro e w2 ⟨rfl,I2,B2⟩;have HI2:=kH I2;have HB2:=kH B2;go_wp2_with fail;go_ret2;exact⟨rfl,HI2.out,HB2.out⟩
  ·have e:aK c0.h l op a b=⟨c0.h,il l 18 a (Wd.mO op (aN l 13 a) b),[],[(a,4)],some (aN l 13 a)⟩:=by unfold aK iN;rw[at6 h46,at6 h47,at7 ok]
   have e2:aH c0.h l 18 a (Wd.mO op (aN l 13 a) b)=⟨c0.h,il l 18 a (Wd.mO op (aN l 13 a) b),[],[(a,4)],none⟩:=by unfold aH;rw[at7 (bG ok)];rfl
   rw[e];rw[e2]at St;have St2:=kH St;have b47:(op ==47)=false:=by simp[h47]
   unfold bQ;generalize il l 18 a (Wd.mO op (aN l 13 a) b)=K at *
   generalize Wd.mO op (aN l 13 a) b=Y at *
   generalize aN l 13 a=X at *
   generalize l.length=n at *
   go_enter func180,ntmps180;go_wp2_with fail;refine L2.out.mono ?_;rintro e w' ⟨rfl,rfl⟩;go_wp2_with fail;refine Am.out.mono ?_;rintro e w' ⟨rfl,rfl⟩;go_wp2_with fail;refine St2.out.mono ?_;rintro e w2 ⟨rfl,I2,B2⟩;have HI2:=kH I2;have HB2:=kH B2;go_wp2_with fail;go_ret2;exact⟨rfl,HI2.out,HB2.out⟩
end Gc
namespace Mp
open Mm Hh Hc Mi

variable {r r' :Rn} {bf bt steps :Int} {j base g :Nat} {v :Value} {w :World}
def mg (r:Rn) (bf bt steps:Int):List Value:=r.tm.map (Value.int .u32)++[.int .u32 bf,.int .u32 bt,.int .i64 steps,.int .i64 r.n,.int .u32 r.here]
def Pr (w:World) (base g:Nat) (r:Rn) (bf bt steps:Int):Prop:=Gc.In 206 (mg r bf bt steps) w base g r.h r.m r.out r.av
theorem ZJ (o:r.Ok)(hj:j<4):(mg r bf bt steps)[j]?=some (.int .u32 (r.tm.getD j 0)):=by have:=o.tl;unfold mg;rw[apA (by simp;omega),apT,api (by omega)];simp[List.getD,api (show j<r.tm.length by omega)]
theorem Ue (o:r.Ok)(j:Nat):(mg r bf bt steps)[4+j]?=[Value.int .u32 bf,.int .u32 bt,.int .i64 steps,.int .i64 r.n,.int .u32 r.here][j]?:=by unfold mg;rw[apv (by simp[o.tl])];simp[o.tl]
theorem JG (o:r.Ok)(hj:j<4)(x:Int):(mg r bf bt steps).set j (.int .u32 x)=mg { r with tm:=r.tm.set j x } bf bt steps:=by have:=o.tl;unfold mg;rw[aqn _ _ (by simp;omega),List.map_set]
theorem NY (o:r.Ok)(et:r'.tm=r.tm)(e:[Value.int .u32 bf,.int .u32 bt,.int .i64 steps,.int .i64 r.n,.int .u32 r.here].set j v=[Value.int .u32 bf,.int .u32 bt,.int .i64 steps,.int .i64 r'.n,.int .u32 r'.here]):(mg r bf bt steps).set (4+j) v=mg r' bf bt steps:=by unfold mg;rw[apJ _ _ (by simp[o.tl]),et];simp only[apY,o.tl];rw[show 4+j-4=j by omega,e]
theorem Pr.of {w':World}(I:Pr w base g r bf bt steps)(q:Gr w w'):Pr w' base g r bf bt steps:=Gc.In.of I q
theorem Pr.adG (I:Pr w base g r bf bt steps)(o:r.Ok)(hj:j<4):w.cell? ⟨g,40+j,none⟩=some (.int .u32 (r.tm.getD j 0)):=by obtain⟨c,e,I⟩:=I;exact(I.rest j).trans (ZJ o hj)
theorem Pr.NZ (I:Pr w base g r bf bt steps)(o:r.Ok)(j:Nat):w.cell? ⟨g,44+j,none⟩=[Value.int .u32 bf,.int .u32 bt,.int .i64 steps,.int .i64 r.n,.int .u32 r.here][j]?:=by obtain⟨c,e,I⟩:=I;have:=(I.rest (4+j)).trans (Ue o j);rwa[show 40+(4+j)=44+j by omega]at this
theorem Pr.reg (I:Pr w base g r bf bt steps){i:Nat}(hi:i<32):w.cell? ⟨g,i,none⟩=some (.int .u32 (rg r.h i)):=by obtain⟨c,e,I⟩:=I;rw[<-e];exact I.reg hi
theorem Pr.hart (I:Pr w base g r bf bt steps)(hj:j<5):w.cell? ⟨g,32+j,none⟩=[Value.int .u32 r.h.pc,.bool r.h.held,.int .u32 r.h.aP,.int .i64 r.h.state,.int .i64 r.h.cause][j]?:=by obtain⟨c,e,I⟩:=I;rw[<-e];exact(I.hcell (by omega)).trans (aW I.ok j)
theorem Pr.fz (I:Pr w base g r bf bt steps)(j:Nat):w.frozen? ⟨g,j,none⟩=false:=by obtain⟨c,e,I⟩:=I;exact I.fz j
theorem Pr.lt (I:Pr w base g r bf bt steps):g<w.heap.size:=by obtain⟨c,e,I⟩:=I;exact I.lt
theorem Pr.ay (I:Pr w base g r bf bt steps):base<=w.heap.size:=by obtain⟨c,e,I⟩:=I;exact I.ay
theorem Pr.adH (I:Pr w base g r bf bt steps)(o:r.Ok)(hj:j<4)(x:Int):Pr (w.setCell ⟨g,40+j,none⟩ (.int .u32 x)) base g { r with tm:=r.tm.set j x } bf bt steps:=by obtain⟨c,e,I⟩:=I;have:=I.vM j (.int .u32 x);rw[JG o hj]at this;exact⟨c,e,this⟩
theorem Pr.adI (I:Pr w base g r bf bt steps)(o:r.Ok)(j:Nat)(eh:r'.h=r.h)(em:r'.m=r.m)(eo:r'.out=r.out)(es:r'.av=r.av)(et:r'.tm=r.tm)(e:[Value.int .u32 bf,.int .u32 bt,.int .i64 steps,.int .i64 r.n,.int .u32 r.here].set j v=[Value.int .u32 bf,.int .u32 bt,.int .i64 steps,.int .i64 r'.n,.int .u32 r'.here]):Pr (w.setCell ⟨g,44+j,none⟩ v) base g r' bf bt steps:=by obtain⟨c,e0,I⟩:=I;have:=I.vM (4+j) v;rw[NY o et e,show 40+(4+j)=44+j by omega]at this;unfold Pr;rw[eh,em,eo,es];exact⟨c,e0,this⟩
theorem Pr.Oa (I:Pr w base g r bf bt steps){x:Int}(hx:Hh.W x):Pr (w.setCell ⟨g,32,none⟩ (.int .u32 x)) base g { r with h:=r.h.go x } bf bt steps:=by obtain⟨c,e,I⟩:=I;have:=I.set (i:=32) (by omega) (C8 I.ok x) (I.ok.go hx.1 hx.2);exact⟨_,by rw[<-e];rfl,this⟩
theorem Pr.same (I:Pr w base g r bf bt steps)(o:Bool)(v:Bool):Pr w base g { r with own:=o,over:=v } bf bt steps:=I
theorem fo (I:Pr w base g r bf bt steps)(o:r.Ok)(k:Int)(h0:0<=k)(h1:k<36):Calls prog 185 #[.pointer (some ⟨g,0,none⟩),.int .i64 k] w fun e w'=>e=.returned (.int .u32 (r.get k))/\w'=w:=by
 obtain⟨k,rfl⟩:=apt h0;by_cases h:k<32
 ·have q:=I.reg h;have e:r.get (k:Int)=rg r.h k:=dU;rw[e];generalize rg r.h k=x at *
  go_enter func185,ntmps185;go_wp2;go_ret;exact⟨rfl,rfl⟩
 ·obtain⟨j,rfl⟩:∃j,k=32+j:=⟨k-32,by omega⟩;have q:=I.adG o (j:=j) (by omega);have e:r.get ((32+j:Nat):Int)=r.tm.getD j 0:=by
   unfold Rn.get;rw[ak,show(((32+j:Nat):Int)-32).toNat=j by omega]
  rw[e];generalize r.tm.getD j 0=x at *
  go_enter func185,ntmps185;go_wp2;go_ret;exact⟨rfl,rfl⟩
theorem Ei {w:World}{base g:Nat}{r:Rn}{bf bt steps:Int}(I:Pr w base g r bf bt steps)(o:r.Ok)(k x:Int)(h0:0<=k)(h1:k<36)(hx:Hh.W x):Calls prog 187 #[.pointer (some ⟨g,0,none⟩),.int .i64 k,.int .u32 x] w fun e w'=>e=.returned (.tuple #[])/\Pr w' base g (r.put k x) bf bt steps/\Ch g w w':=by
 obtain⟨k,rfl⟩:=apt h0;by_cases h:k<32
 ·have S:Hid (Calls prog 162 #[.pointer (some ⟨g,0,none⟩),.int .i64 k,.int .u32 x] w fun e w'=>e=.returned (.tuple #[])/\Pr w' base g (r.put k x) bf bt steps/\Ch g w w'):=by
   have e:r.put (k:Int) x={ r with h:=r.h.set k x }:=by
    unfold Rn.put;rw[ak,apG]
   rw[e];have:=Gc.yl I k x h0 (by omega) hx.1 hx.2;rw[apG]at this;exact this
  go_enter func187,ntmps187;go_wp2_with fail;refine S.out.mono ?_;rintro e w' ⟨rfl,I2,C2⟩;have HI2:=kH I2;go_wp2;refine auc (auV results187 _ _ _) rfl ?_;exact⟨rfl,HI2.out,C2⟩
 ·obtain⟨j,rfl⟩:∃j,k=32+j:=⟨k-32,by omega⟩;have q:=I.adG o (j:=j) (by omega);have f:=I.fz (40+j);have e:r.put ((32+j:Nat):Int) x={ r with tm:=r.tm.set j x }:=by
   unfold Rn.put;rw[dU,show(((32+j:Nat):Int)-32).toNat=j by omega]
  have HJ:Hid (Pr (w.setCell ⟨g,40+j,none⟩ (.int .u32 x)) base g (r.put ((32+j:Nat):Int) x) bf bt steps):=by
   rw[e];exact I.adH o (by omega) x
  generalize r.tm.getD j 0=y at *
  go_enter func187,ntmps187;go_wp2;go_end0;exact⟨rfl,HJ.out,(Ch.refl g w).setCell _ _⟩
end Mp
namespace Mp
open Mm Hh Hc Mi

variable {w :World} {K :Int}
def p9:List (Int×Int×Int):=[(1,1,8),(2,2,9),(3,3,8),(4,4,10),(5,6,0),(105,110,14),(211,215,11),(316,318,14),(428,445,7),(528,545,11),(646,656,7)]
def qd:List Int:=p9.flatMap fun p=>[p.1,p.2.1,p.2.2]
structure Tr (w:World):Prop where
 rows:∀i n,qd[i]?=some n->w.cell? ⟨7,i,none⟩=some (.int .i64 n)
 b:7<w.heap.size
theorem Tr.of {w':World}(T:Tr w)(g:Gr w w'):Tr w':=⟨fun i n h=>(g.cell _ (by exact T.b)).trans (T.rows i n h),apq T.b g.size⟩
theorem ZK {j:Nat}(h:j<11):∃f l k,p9[j]?=some (f,l,k)/\qd[j*3]?=some f/\qd[j*3+1]?=some l/\qd[j*3+2]?=some k/\(k=0\/k=7\/k=8\/k=9\/k=10\/k=11\/k=14)/\∀op,f<=op->op<=l->named op=k:=by
 have:j=0\/j=1\/j=2\/j=3\/j=4\/j=5\/j=6\/j=7\/j=8\/j=9\/j=10:=by omega
 rcases this with rfl|rfl|rfl|rfl|rfl|rfl|rfl|rfl|rfl|rfl|rfl <;>
  refine⟨_,_,_,rfl,rfl,rfl,rfl,by decide,fun op h1 h2=>?_⟩<;>unfold named<;>repeat (first|rw[dU]|rw[ak])
theorem Ej {op:Int}(h:∀(j:Nat) (f l k:Int),p9[j]?=some (f,l,k)->¬(f<=op/\op<=l)):named op<0:=by
 by_cases hn:0<=named op
 ·exfalso;rcases jF hn with q|q|q|q|q|q|q|q|q|q|q|q
  ·exact h 0 _ _ _ rfl (by omega)
  ·exact h 1 _ _ _ rfl (by omega)
  ·exact h 2 _ _ _ rfl (by omega)
  ·exact h 3 _ _ _ rfl (by omega)
  ·exact h 4 _ _ _ rfl (by omega)
  ·exact h 4 _ _ _ rfl (by omega)
  ·exact h 5 _ _ _ rfl (by omega)
  ·exact h 6 _ _ _ rfl (by omega)
  ·exact h 7 _ _ _ rfl (by omega)
  ·exact h 8 _ _ _ rfl (by omega)
  ·exact h 9 _ _ _ rfl (by omega)
  ·exact h 10 _ _ _ rfl (by omega)
 ·omega
theorem aG (n a b:Int)(w:World):Calls prog 113 #[.int .i64 n,.int .i64 a,.int .i64 b] w fun e w'=>e=.returned (.bool (decide (a<=n/\n<=b)))/\w'=w:=by
 by_cases h1:a<=n
 ·by_cases h2:n<=b
  ·rw[auq ⟨h1,h2⟩];go_enter func113,ntmps113;go_wp2;go_ret;exact⟨by simp[h1,h2],rfl⟩
  ·rw[auh (fun q=>h2 q.2)];go_enter func113,ntmps113;go_wp2;go_ret;exact⟨by simp[h1,h2],rfl⟩
 ·rw[auh (fun q=>h1 q.1)];go_enter func113,ntmps113;go_wp2;go_ret;exact⟨by simp[h1],rfl⟩
def kT (k:Int) (i:Mv):Bool:=bR (decide (k%2=1)) i.d && (bR (decide (k/2%2=1)) i.a && (bR (decide (k/4%2=1)) i.b && decide (8<=k\/i.n=0)))
theorem ZL {i:Mv}{k:Int}(h:named i.op=k)(h0:0<=k):dZ i=kT k i:=by unfold dZ kT;rw[h,auq h0,arl];generalize bR (decide (k%2=1)) i.d=a;generalize bR (decide (k/2%2=1)) i.a=b;generalize bR (decide (k/4%2=1)) i.b=c;generalize decide (8<=k\/i.n=0)=d;cases a<;>cases b<;>cases c<;>cases d<;>rfl
def sO (i:Mv):Array Value:=#[.int .i64 i.op,.int .i64 i.d,.int .i64 i.a,.int .i64 i.b,.int .u32 i.n]
theorem sw {w:World}{B:Nat}{K b:Int}(kb:w.cell? ⟨B,0,none⟩=some (.int .i64 K))(hz:bits .and .i64 K b=0)(x:Int):Calls prog 183 #[.int .i64 x,.int .i64 b,.pointer (some ⟨B,0,none⟩)] w fun e w'=>e=.returned (.bool (bR false x))/\w'=w:=by
 have HE:Hid (bR false x=(x ==0)):=by
  unfold Hid bR;by_cases h:x=0
  ·subst h;rfl
  ·rw[auh (by simp[h])];simp[h]
 rw[HE.out];go_enter func183,ntmps183;go_wp2_with fail;go_ret;exact⟨rfl,rfl⟩
theorem yZ {w:World}{B:Nat}{K b:Int}(kb:w.cell? ⟨B,0,none⟩=some (.int .i64 K))(hz:(bits .and .i64 K b ==0)=false)(x:Int):Calls prog 183 #[.int .i64 x,.int .i64 b,.pointer (some ⟨B,0,none⟩)] w fun e w'=>e=.returned (.bool (bR true x))/\w'=w:=by
 have HE:Hid (bR true x=decide (0<=x/\x<=35)):=by
  unfold Hid bR;rw[decide_eq_decide];simp only[true_or,au7];omega
 rw[HE.out];have Wi:=kH (aG x 0 35 w);generalize decide (0<=x/\x<=35)=q at *
 go_enter func183,ntmps183;go_wp2_with fail;refine Wi.out.mono ?_;rintro e w' ⟨rfl,rfl⟩;go_wp2_with fail;go_ret;exact⟨rfl,rfl⟩
theorem Gj {K:Int}{x1 x2 x3:Bool}(op d a b n:Int)(w:World)(h8:bits .and .i64 K 8=0)(C1:∀(W:World) (B:Nat),W.cell? ⟨B,0,none⟩=some (.int .i64 K)→Calls prog 183 #[.int .i64 d,.int .i64 1,.pointer (some ⟨B,0,none⟩)] W fun e w'=>e=.returned (.bool x1)∧w'=W)(C2:∀(W:World) (B:Nat),W.cell? ⟨B,0,none⟩=some (.int .i64 K)->Calls prog 183 #[.int .i64 a,.int .i64 2,.pointer (some ⟨B,0,none⟩)] W fun e w'=>e=.returned (.bool x2)/\w'=W)(C3:∀(W:World) (B:Nat),W.cell? ⟨B,0,none⟩=some (.int .i64 K)->Calls prog 183 #[.int .i64 b,.int .i64 4,.pointer (some ⟨B,0,none⟩)] W fun e w'=>e=.returned (.bool x3)/\w'=W):Calls prog 169 #[.agg #[.int .i64 op,.int .i64 d,.int .i64 a,.int .i64 b,.int .u32 n],.int .i64 K] w fun e w'=>e=.returned (.bool (x1 && (x2 && (x3 && (n ==0)))))/\Gr w w':=by
 have H1:Hid (∀(W:World) (B:Nat),W.cell? ⟨B,0,none⟩=some (.int .i64 K)->Calls prog 183 #[.int .i64 d,.int .i64 1,.pointer (some ⟨B,0,none⟩)] W fun e w'=>e=.returned (.bool x1)/\w'=W):=C1;have H2:=kH C2;have H3:=kH C3;have HK:Hid (((w.alloc (.cells #[.int .i64 op,.int .i64 d,.int .i64 a,.int .i64 b,.int .u32 n] 235)).alloc (.cells #[.int .i64 K] 3)).cell? ⟨w.heap.size+1,0,none⟩=some (.int .i64 K)):=atZ _ _ _ _ _ _ (au8 w _ _);cases x1
 ·go_enter func169,ntmps169;go_wp2_with fail;refine(H1.out _ _ HK.out).mono ?_;rintro e w' ⟨rfl,rfl⟩;go_wp2_with fail;go_ret;exact⟨rfl,((Gr.refl _).alloc _).alloc _⟩
 cases x2
 ·go_enter func169,ntmps169;go_wp2_with fail;refine(H1.out _ _ HK.out).mono ?_;rintro e w' ⟨rfl,rfl⟩;go_wp2_with fail;refine(H2.out _ _ HK.out).mono ?_;rintro e w' ⟨rfl,rfl⟩;go_wp2_with fail;go_ret;exact⟨rfl,((Gr.refl _).alloc _).alloc _⟩
 cases x3
 all_goals
  go_enter func169,ntmps169;go_wp2_with fail;refine(H1.out _ _ HK.out).mono ?_;rintro e w' ⟨rfl,rfl⟩;go_wp2_with fail;refine(H2.out _ _ HK.out).mono ?_;rintro e w' ⟨rfl,rfl⟩;go_wp2_with fail;refine(H3.out _ _ HK.out).mono ?_;rintro e w' ⟨rfl,rfl⟩;go_wp2_with fail;go_ret;exact⟨by simp,((Gr.refl _).alloc _).alloc _⟩
theorem qf {K:Int}{x1 x2 x3:Bool}(op d a b n:Int)(w:World)(h8:(bits .and .i64 K 8 != 0)=true)(C1:∀(W:World) (B:Nat),W.cell? ⟨B,0,none⟩=some (.int .i64 K)→Calls prog 183 #[.int .i64 d,.int .i64 1,.pointer (some ⟨B,0,none⟩)] W fun e w'=>e=.returned (.bool x1)∧w'=W)(C2:∀(W:World) (B:Nat),W.cell? ⟨B,0,none⟩=some (.int .i64 K)->Calls prog 183 #[.int .i64 a,.int .i64 2,.pointer (some ⟨B,0,none⟩)] W fun e w'=>e=.returned (.bool x2)/\w'=W)(C3:∀(W:World) (B:Nat),W.cell? ⟨B,0,none⟩=some (.int .i64 K)->Calls prog 183 #[.int .i64 b,.int .i64 4,.pointer (some ⟨B,0,none⟩)] W fun e w'=>e=.returned (.bool x3)/\w'=W):Calls prog 169 #[.agg #[.int .i64 op,.int .i64 d,.int .i64 a,.int .i64 b,.int .u32 n],.int .i64 K] w fun e w'=>e=.returned (.bool (x1 && (x2 && (x3 && true))))/\Gr w w':=by
 have H1:Hid (∀(W:World) (B:Nat),W.cell? ⟨B,0,none⟩=some (.int .i64 K)->Calls prog 183 #[.int .i64 d,.int .i64 1,.pointer (some ⟨B,0,none⟩)] W fun e w'=>e=.returned (.bool x1)/\w'=W):=C1;have H2:=kH C2;have H3:=kH C3;have HK:Hid (((w.alloc (.cells #[.int .i64 op,.int .i64 d,.int .i64 a,.int .i64 b,.int .u32 n] 235)).alloc (.cells #[.int .i64 K] 3)).cell? ⟨w.heap.size+1,0,none⟩=some (.int .i64 K)):=atZ _ _ _ _ _ _ (au8 w _ _);cases x1
 ·go_enter func169,ntmps169;go_wp2_with fail;refine(H1.out _ _ HK.out).mono ?_;rintro e w' ⟨rfl,rfl⟩;go_wp2_with fail;go_ret;exact⟨rfl,((Gr.refl _).alloc _).alloc _⟩
 cases x2
 ·go_enter func169,ntmps169;go_wp2_with fail;refine(H1.out _ _ HK.out).mono ?_;rintro e w' ⟨rfl,rfl⟩;go_wp2_with fail;refine(H2.out _ _ HK.out).mono ?_;rintro e w' ⟨rfl,rfl⟩;go_wp2_with fail;go_ret;exact⟨rfl,((Gr.refl _).alloc _).alloc _⟩
 cases x3
 all_goals
  go_enter func169,ntmps169;go_wp2_with fail;refine(H1.out _ _ HK.out).mono ?_;rintro e w' ⟨rfl,rfl⟩;go_wp2_with fail;refine(H2.out _ _ HK.out).mono ?_;rintro e w' ⟨rfl,rfl⟩;go_wp2_with fail;refine(H3.out _ _ HK.out).mono ?_;rintro e w' ⟨rfl,rfl⟩;go_wp2_with fail;go_ret;exact⟨by simp,((Gr.refl _).alloc _).alloc _⟩
theorem Oc (hK:K=0\/K=7\/K=8\/K=9\/K=10\/K=11\/K=14)(op d a b n:Int)(w:World):Calls prog 169 #[.agg #[.int .i64 op,.int .i64 d,.int .i64 a,.int .i64 b,.int .u32 n],.int .i64 K] w fun e w'=>e=.returned (.bool (kT K ⟨op,d,a,b,n⟩))/\Gr w w':=by
 rcases hK with rfl|rfl|rfl|rfl|rfl|rfl|rfl
 ·have:=Gj op d a b n w (K:=0) (by decide) (fun W B k=>sw k (by decide) _) (fun W B k=>sw k (by decide) _) (fun W B k=>sw k (by decide) _);have e:kT 0 ⟨op,d,a,b,n⟩=(bR false d && (bR false a && (bR false b && (n ==0)))):=by
   unfold kT;by_cases h:n=0<;>simp[h]
  rw[e];exact this
 ·have:=Gj op d a b n w (K:=7) (by decide) (fun W B k=>yZ k (by decide) _) (fun W B k=>yZ k (by decide) _) (fun W B k=>yZ k (by decide) _);have e:kT 7 ⟨op,d,a,b,n⟩=(bR true d && (bR true a && (bR true b && (n ==0)))):=by
   unfold kT;by_cases h:n=0<;>simp[h]
  rw[e];exact this
 ·have:=qf op d a b n w (K:=8) (by decide) (fun W B k=>sw k (by decide) _) (fun W B k=>sw k (by decide) _) (fun W B k=>sw k (by decide) _);have e:kT 8 ⟨op,d,a,b,n⟩=(bR false d && (bR false a && (bR false b && true))):=by
   unfold kT;simp
  rw[e];exact this
 ·have:=qf op d a b n w (K:=9) (by decide) (fun W B k=>yZ k (by decide) _) (fun W B k=>sw k (by decide) _) (fun W B k=>sw k (by decide) _);have e:kT 9 ⟨op,d,a,b,n⟩=(bR true d && (bR false a && (bR false b && true))):=by
   unfold kT;simp
  rw[e];exact this
 ·have:=qf op d a b n w (K:=10) (by decide) (fun W B k=>sw k (by decide) _) (fun W B k=>yZ k (by decide) _) (fun W B k=>sw k (by decide) _);have e:kT 10 ⟨op,d,a,b,n⟩=(bR false d && (bR true a && (bR false b && true))):=by
   unfold kT;simp
  rw[e];exact this
 ·have:=qf op d a b n w (K:=11) (by decide) (fun W B k=>yZ k (by decide) _) (fun W B k=>yZ k (by decide) _) (fun W B k=>sw k (by decide) _);have e:kT 11 ⟨op,d,a,b,n⟩=(bR true d && (bR true a && (bR false b && true))):=by
   unfold kT;simp
  rw[e];exact this
 ·have:=qf op d a b n w (K:=14) (by decide) (fun W B k=>sw k (by decide) _) (fun W B k=>yZ k (by decide) _) (fun W B k=>yZ k (by decide) _);have e:kT 14 ⟨op,d,a,b,n⟩=(bR false d && (bR true a && (bR true b && true))):=by
   unfold kT;simp
  rw[e];exact this
end Mp
namespace Mi
open Mm Hh Hc

end Mi
namespace Mi
open Mm Hh Hc

end Mi
end Go.Proofs.YtiadhbmnfjfioaaGreatDoor
