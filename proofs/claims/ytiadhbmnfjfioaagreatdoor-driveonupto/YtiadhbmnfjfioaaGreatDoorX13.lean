/- ours -/
import Derived.Test.YtiadhbmnfjfioaaGreatDoorX10
set_option linter.unusedVariables false
set_option linter.unusedSimpArgs false
set_option maxHeartbeats 8000000
set_option maxRecDepth 100000
set_option linter.unusedSectionVars false
namespace Go.Proofs.YtiadhbmnfjfioaaGreatDoor
open Go.Proofs.Tryz hiding d0 d1 t0 t1
open Go.ChangeShapes Go.WideShapes Go.ChangeAt Go.RowKit
namespace Hc
variable [Inhabited Go.Proofs.YtiadhbmnfjfioaaGreatDoor.Hc.bN]
open Mm Hh
abbrev Ptr (g:Nat):Value:=.pointer (some ⟨g,0,none⟩)
def bQ (r:Option Int):Value:=.tuple #[.int .u32 (r.getD 0),.bool r.isSome]
theorem lV {w:World}{base g:Nat}{h:Hv}{l:List UInt8}{os:List Int}{ss:List (Int×Int)}(I:In w base g h l os ss)(hl:l.length<=140737488351232)(a:Int)(h0:0<=a)(h1:a<4294967296):Calls prog 197 #[.pointer (some ⟨g,0,none⟩),.int .u32 a] w fun e w'=>e=.returned (bQ (gB h l a).res)/\In w' base g (gB h l a).h l os ss/\Fr base w w':=by
 have L:=dY I hl 13 a h0 h1;unfold gB;have HI:=kH I;clear I;cases hB:bM l 13 a with
 |false=>
  have hX:aN l 13 a=0:=by unfold aN;rw[hB];rfl
  rw[hB,hX]at L;have HL:=kH L;clear L hX hB;go_enter func197,ntmps197;go_wp2_with fail;refine HL.out.mono ?_;rintro e w' ⟨rfl,I2,C2⟩;have HI2:=kH I2;have ll:=kH C2;clear I2 C2 HL;go_wp2_with fail;go_ret2;exact⟨rfl,HI2.out,HI.out.below ll.out⟩
 |true=>
  rw[hB]at L;have HL:Hid (Calls prog 177 #[.pointer (some ⟨g,0,none⟩),.int .i64 13,.int .u32 a] w fun e w'=>e=.returned (.tuple #[.int .u32 (aN l 13 a),.bool true])/\In w' base g h l os ss/\Ch g w w'):=L;clear L hB;generalize aN l 13 a=X at *
  go_enter func197,ntmps197;go_wp2_with fail;refine HL.out.mono ?_;rintro e w' ⟨rfl,I2,C2⟩;have ll:Hid (Ch g w w'):=C2;obtain⟨c0,rfl,I⟩:=I2;have k1:=(I.hcell (by omega)).trans (aW I.ok 1);have k2:=(I.hcell (by omega)).trans (aW I.ok 2);have fz:=I.fz;have o1:Hv.Ok { c0.h with held:=true }:=⟨I.ok.len,I.ok.reg,I.ok.nH,I.ok.jV,I.ok.x9,I.ok.zO⟩;have HJ:Hid (Inv ((w'.setCell ⟨g,33,none⟩ (.bool true)).setCell ⟨g,34,none⟩ (.int .u32 a)) base g { c0 with h:=c0.h.hold true a } l os ss):=
   (I.set (by omega) (jW I.ok true) o1).set (c:={ c0 with h:={ c0.h with held:=true } }) (by omega) (gI o1 a) (I.ok.hold true h0 h1)
  generalize c0.h.held=x1 at *
  generalize c0.h.aP=x2 at *
  go_wp2_with fail;go_ret2;exact⟨rfl,HJ.out.rF,HI.out.below ((ll.out.setCell _ _).setCell _ _)⟩
theorem jN {w:World}{base g:Nat}{h:Hv}{l:List UInt8}{os:List Int}{ss:List (Int×Int)}(I:In w base g h l os ss)(T:Tb w base)(hl:l.length<=140737488351232)(hss:ss.length<=1000000)(a b:Int)(h0:0<=a)(h1:a<4294967296)(hx0:0<=b)(hx1:b<4294967296)(ok:bM l 13 a=true):Calls prog 198 #[.pointer (some ⟨g,0,none⟩),.int .u32 a,.int .u32 b] w fun e w'=>e=.returned (.int .u32 ((eU h l a b).res.getD 0))/\In w' base g (eU h l a b).h (eU h l a b).m os (ss++(eU h l a b).av)/\Fr base w w':=by
 unfold eU;rw[at7 ok];have HI:Hid (In w base g h l os ss):=I;obtain⟨c0,rfl,I⟩:=I;have k1:=(I.hcell (by omega)).trans (aW I.ok 1);have k2:=(I.hcell (by omega)).trans (aW I.ok 2);have fz:=I.fz;have o1:Hv.Ok { c0.h with held:=false }:=⟨I.ok.len,I.ok.reg,I.ok.nH,I.ok.jV,I.ok.x9,I.ok.zO⟩;have J:Inv ((w.setCell ⟨g,33,none⟩ (.bool false)).setCell ⟨g,34,none⟩ (.int .u32 0)) base g { c0 with h:=c0.h.hold false 0 } l os ss:=
  (I.set (by omega) (jW I.ok false) o1).set (c:={ c0 with h:={ c0.h with held:=false } }) (by omega) (gI o1 0) (I.ok.hold false (x:=0) (by omega) (by omega))
 have B:Fr base w ((w.setCell ⟨g,33,none⟩ (.bool false)).setCell ⟨g,34,none⟩ (.int .u32 0)):=HI.out.below (((Ch.refl g w).setCell _ _).setCell _ _);have S:=dO J.rF (T.of B) hl hss 18 a b h0 h1 hx0 hx1;have e1:aH (c0.h.hold false 0) l 18 a b=⟨c0.h.hold false 0,il l 18 a b,[],[(a,4)],none⟩:=by unfold aH;rw[at7 (bG ok)];rfl
 have HS:Hid (Calls prog 178 #[.pointer (some ⟨g,0,none⟩),.int .i64 18,.int .u32 a,.int .u32 b] ((w.setCell ⟨g,33,none⟩ (.bool false)).setCell ⟨g,34,none⟩ (.int .u32 0)) fun e w'=>e=.returned (.tuple #[])/\In w' base g (c0.h.hold false 0) (il l 18 a b) os (ss++[(a,4)])/\Fr base ((w.setCell ⟨g,33,none⟩ (.bool false)).setCell ⟨g,34,none⟩ (.int .u32 0)) w'):=by
  have S1:=S;rw[e1]at S1;exact S1
 have HJ:=kH J.rF;have HB:=kH B;generalize c0.h.held=x1 at *
 generalize c0.h.aP=x2 at *
 cases x1 with
 |false=>
  rw[at6 (by simp)];go_enter func198,ntmps198;go_wp2_with fail;go_ret;exact⟨rfl,by simpa using HJ.out,HB.out⟩
 |true=>
  by_cases ha:x2=a
  ·rw[at7 ⟨rfl,ha⟩];have ba:(x2 ==a)=true:=by simp[ha]
   go_enter func198,ntmps198;go_wp2_with fail;refine HS.out.mono ?_;rintro e w' ⟨rfl,I2,B2⟩;have HI2:=kH I2;have HB2:Hid _:=HB.out.trans B2;go_wp2_with fail;go_ret;exact⟨rfl,HI2.out,HB2.out⟩
  ·rw[at6 (by simp[ha])];have ba:(x2 ==a)=false:=by simp[ha]
   go_enter func198,ntmps198;go_wp2_with fail;go_ret;exact⟨rfl,by simpa using HJ.out,HB.out⟩
theorem uz {w:World}{base g:Nat}{h:Hv}{l:List UInt8}{os:List Int}{ss:List (Int×Int)}(I:In w base g h l os ss)(T:Tb w base)(hl:l.length<=140737488351232)(hss:ss.length<=1000000)(op a b:Int)(h0:0<=a)(h1:a<4294967296)(hx0:0<=b)(hx1:b<4294967296):Calls prog 180 #[.pointer (some ⟨g,0,none⟩),.int .i64 op,.int .u32 a,.int .u32 b] w fun e w'=>e=.returned (bQ (aK h l op a b).res)/\In w' base g (aK h l op a b).h (aK h l op a b).m os (ss++(aK h l op a b).av)/\Fr base w w':=by
 have R:=kH (lV I hl a h0 h1);have Tr:Hid (∀c,_):=fun c=>dK I c
 have SH:Hid (bM l 13 a=true->_):=fun ok=>jN I T hl hss a b h0 h1 hx0 hx1 ok
 have wv:=W.aN l 13 a;have wa:=W.mO (op:=op) wv ⟨hx0,hx1⟩;have St:Hid _:=dO I T hl hss 18 a _ h0 h1 wa.1 wa.2;have HI:=kH I;obtain⟨c0,rfl,I⟩:=I;obtain⟨ao,cap,hm,M⟩:=I.mem.mem;have k1:w.cell? ⟨g,37,none⟩=some (.slice ao l.length cap):=(I.dJ 0).trans (by rw[hm];rfl);have L:Hid _:=Mm.dY cap 13 a M hl h0 h1;have Am:=kH (Ww.Fu op _ b w wv.1 wv.2 hx0 hx1);by_cases h46:op=46
 ·have e:aK c0.h l op a b=gB c0.h l a:=at7 h46;have em:(gB c0.h l a).m=l/\(gB c0.h l a).av=[]:=by unfold gB;split<;>exact⟨rfl,rfl⟩
  rw[e,em.1,em.2,apz];have b46:(op ==46)=true:=by simp[h46]
  generalize gB c0.h l a=E at *
  unfold bQ at *
  go_enter func180,ntmps180;go_wp2_with fail;refine R.out.mono ?_;rintro e w' ⟨rfl,I2,B2⟩;have HI2:=kH I2;have HB2:=kH B2;go_wp2_with fail;go_ret2;exact⟨rfl,HI2.out,HB2.out⟩
 have b46:(op ==46)=false:=by simp[h46]
 cases ok:bM l 13 a with
 |false=>
  have e:aK c0.h l op a b=⟨c0.h.trap 4,l,[],[],none⟩:=by
   unfold aK eU iN;rw[at6 h46,ok];simp
  rw[e,apz];rw[ok]at L;have L2:Hid (Calls prog 64 #[.slice ao l.length cap,.int .i64 13,.int .u32 a] w fun e w'=>e=.returned (.tuple #[.int .u32 (aN l 13 a),.bool false])/\w'=w):=L;generalize aN l 13 a=X at *
  generalize l.length=n at *
  go_enter func180,ntmps180;go_wp2_with fail;refine L2.out.mono ?_;rintro e w' ⟨rfl,rfl⟩;go_wp2_with fail;refine(Tr.out 4).mono ?_;rintro e w2 ⟨rfl,I2,C2⟩;have HI2:=kH I2;have ll:=kH C2;go_wp2_with fail;go_ret2;exact⟨rfl,HI2.out,HI.out.below ll.out⟩
 |true=>
  rw[ok]at L;have L2:Hid (Calls prog 64 #[.slice ao l.length cap,.int .i64 13,.int .u32 a] w fun e w'=>e=.returned (.tuple #[.int .u32 (aN l 13 a),.bool true])/\w'=w):=L;by_cases h47:op=47
  ·have e:aK c0.h l op a b=eU c0.h l a b:=by unfold aK;rw[at6 h46,at7 h47]
   have er:bQ (eU c0.h l a b).res=.tuple #[.int .u32 ((eU c0.h l a b).res.getD 0),.bool true]:=by
    unfold bQ eU;rw[at7 ok];split<;>rfl
   rw[e,er];have S2:=kH (SH.out ok);have b47:(op ==47)=true:=by simp[h47]
   generalize eU c0.h l a b=E at *
   generalize E.res.getD 0=Y at *
   generalize aN l 13 a=X at *
   generalize l.length=n at *
   go_enter func180,ntmps180;go_wp2_with fail;refine L2.out.mono ?_;rintro e w' ⟨rfl,rfl⟩;go_wp2_with fail;refine S2.out.mono ?_;rintro e w2 ⟨rfl,I2,B2⟩;have HI2:=kH I2;have HB2:=kH B2;go_wp2_with fail;go_ret2;exact⟨rfl,HI2.out,HB2.out⟩
  ·have e:aK c0.h l op a b=⟨c0.h,il l 18 a (Wd.mO op (aN l 13 a) b),[],[(a,4)],some (aN l 13 a)⟩:=by unfold aK iN;rw[at6 h46,at6 h47,at7 ok]
   have e2:aH c0.h l 18 a (Wd.mO op (aN l 13 a) b)=⟨c0.h,il l 18 a (Wd.mO op (aN l 13 a) b),[],[(a,4)],none⟩:=by unfold aH;rw[at7 (bG ok)];rfl
   rw[e];rw[e2]at St;have St2:Hid (Calls prog 178 #[.pointer (some ⟨g,0,none⟩),.int .i64 18,.int .u32 a,.int .u32 (Wd.mO op (aN l 13 a) b)] w fun e w'=>e=.returned (.tuple #[])/\In w' base g c0.h (il l 18 a (Wd.mO op (aN l 13 a) b)) os (ss++[(a,4)])/\Fr base w w'):=St;have b47:(op ==47)=false:=by simp[h47]
   unfold bQ;generalize il l 18 a (Wd.mO op (aN l 13 a) b)=K at *
   generalize Wd.mO op (aN l 13 a) b=Y at *
   generalize aN l 13 a=X at *
   generalize l.length=n at *
   go_enter func180,ntmps180;go_wp2_with fail;refine L2.out.mono ?_;rintro e w' ⟨rfl,rfl⟩;go_wp2_with fail;refine Am.out.mono ?_;rintro e w' ⟨rfl,rfl⟩;clear Am;go_wp2_with fail;refine St2.out.mono ?_;rintro e w2 ⟨rfl,I2,B2⟩;have HI2:=kH I2;have HB2:=kH B2;go_wp2_with fail;go_ret2;exact⟨rfl,HI2.out,HB2.out⟩
end Hc
namespace Hc
variable [Inhabited Go.Proofs.YtiadhbmnfjfioaaGreatDoor.Hc.bN]
open Mm Hh

variable {w :World} {base g :Nat} {h :Hv} {l :List UInt8} {os :List Int} {ss :List (Int × Int)}
theorem aF (n a b:Int)(w:World)(h:a<=n/\n<=b):Calls prog 97 #[.int .i64 n,.int .i64 a,.int .i64 b] w fun e w'=>e=.returned (.bool true)/\w=w':=by have:=aG n a b w;rw[show(decide (a<=n) && decide (n<=b))=true by simp;omega]at this;exact this.mono fun e w' h=>⟨h.1,h.2.symm⟩
theorem ai (n a b:Int)(w:World)(h:¬(a<=n/\n<=b)):Calls prog 97 #[.int .i64 n,.int .i64 a,.int .i64 b] w fun e w'=>e=.returned (.bool false)/\w=w':=by have:=aG n a b w;rw[show(decide (a<=n) && decide (n<=b))=false by simp;omega]at this;exact this.mono fun e w' h=>⟨h.1,h.2.symm⟩
theorem Jg (T:Tb w base)(op:Int)(h0:19<=op)(h1:op<=27):w.cell? ⟨10,op.toNat,none⟩=some (.int .i64 (opn op)):=by
 have h:op=19\/op=20\/op=21\/op=22\/op=23\/op=24\/op=25\/op=26\/op=27:=by omega
 rcases h with rfl|rfl|rfl|rfl|rfl|rfl|rfl|rfl|rfl
 ·exact T.opers 19 _ rfl
 ·exact T.opers 20 _ rfl
 ·exact T.opers 21 _ rfl
 ·exact T.opers 22 _ rfl
 ·exact T.opers 23 _ rfl
 ·exact T.opers 24 _ rfl
 ·exact T.opers 25 _ rfl
 ·exact T.opers 26 _ rfl
 ·exact T.opers 27 _ rfl
theorem adb (I:In w base g h l os ss)(T:Tb w base)(hl:l.length<=140737488351232)(hss:ss.length<=1000000)(hos:os.length<=1000000)(op a b n:Int)(ha:W a)(hb:W b)(hn:W n)(ho:op=1):Calls prog 161 #[.pointer (some ⟨g,0,none⟩),.int .i64 op,.int .u32 a,.int .u32 b,.int .u32 n] w fun e w'=>e=.returned (bQ (⟨h,l,[],[],some n⟩:Ev).res)/\In w' base g (⟨h,l,[],[],some n⟩:Ev).h (⟨h,l,[],[],some n⟩:Ev).m (os++(⟨h,l,[],[],some n⟩:Ev).out) (ss++(⟨h,l,[],[],some n⟩:Ev).av)/\Fr base w w':=by
 have HI:Hid (In w base g h l (os++[]) (ss++[])):=by unfold Hid;simpa using I
 subst ho;go_enter func161,ntmps161;go_wp2_with (go_at_call 97;first|(refine(aF _ _ _ _ (by omega)).mono ?_;rintro e w' ⟨rfl,rfl⟩)|(refine(ai _ _ _ _ (by omega)).mono ?_;rintro e w' ⟨rfl,rfl⟩));unfold bQ;go_ret2;exact⟨rfl,HI.out,Fr.refl _ _⟩
theorem ade (I:In w base g h l os ss)(T:Tb w base)(hl:l.length<=140737488351232)(hss:ss.length<=1000000)(hos:os.length<=1000000)(op a b n:Int)(ha:W a)(hb:W b)(hn:W n)(ho:op=2):Calls prog 161 #[.pointer (some ⟨g,0,none⟩),.int .i64 op,.int .u32 a,.int .u32 b,.int .u32 n] w fun e w'=>e=.returned (bQ (⟨h,l,[],[],some (Wd.lo (h.pc+n))⟩:Ev).res)/\In w' base g (⟨h,l,[],[],some (Wd.lo (h.pc+n))⟩:Ev).h (⟨h,l,[],[],some (Wd.lo (h.pc+n))⟩:Ev).m (os++(⟨h,l,[],[],some (Wd.lo (h.pc+n))⟩:Ev).out) (ss++(⟨h,l,[],[],some (Wd.lo (h.pc+n))⟩:Ev).av)/\Fr base w w':=by
 have HI:Hid (In w base g h l (os++[]) (ss++[])):=by unfold Hid;simpa using I
 have HI0:=kH I;obtain⟨c0,rfl,J⟩:=HI0.out;have Nc:=(J.hcell (by omega)).trans (aW J.ok 0);have p0:=J.ok.nH;have p1:=J.ok.jV;subst ho;go_enter func161,ntmps161;go_wp2_with (go_at_call 97;first|(refine(aF _ _ _ _ (by omega)).mono ?_;rintro e w' ⟨rfl,rfl⟩)|(refine(ai _ _ _ _ (by omega)).mono ?_;rintro e w' ⟨rfl,rfl⟩));unfold bQ;go_ret2;exact⟨rfl,HI.out,Fr.refl _ _⟩
theorem adf (I:In w base g h l os ss)(T:Tb w base)(hl:l.length<=140737488351232)(hss:ss.length<=1000000)(hos:os.length<=1000000)(op a b n:Int)(ha:W a)(hb:W b)(hn:W n)(ho:op=3):Calls prog 161 #[.pointer (some ⟨g,0,none⟩),.int .i64 op,.int .u32 a,.int .u32 b,.int .u32 n] w fun e w'=>e=.returned (bQ (⟨h,l,[],[],some (Wd.lo (h.pc+4))⟩:Ev).res)/\In w' base g (⟨h,l,[],[],some (Wd.lo (h.pc+4))⟩:Ev).h (⟨h,l,[],[],some (Wd.lo (h.pc+4))⟩:Ev).m (os++(⟨h,l,[],[],some (Wd.lo (h.pc+4))⟩:Ev).out) (ss++(⟨h,l,[],[],some (Wd.lo (h.pc+4))⟩:Ev).av)/\Fr base w w':=by
 have HI:Hid (In w base g h l (os++[]) (ss++[])):=by unfold Hid;simpa using I
 have HI0:=kH I;obtain⟨c0,rfl,J⟩:=HI0.out;have Nc:=(J.hcell (by omega)).trans (aW J.ok 0);have p0:=J.ok.nH;have p1:=J.ok.jV;subst ho;go_enter func161,ntmps161;go_wp2_with (go_at_call 97;first|(refine(aF _ _ _ _ (by omega)).mono ?_;rintro e w' ⟨rfl,rfl⟩)|(refine(ai _ _ _ _ (by omega)).mono ?_;rintro e w' ⟨rfl,rfl⟩));unfold bQ;go_ret2;exact⟨rfl,HI.out,Fr.refl _ _⟩
theorem adg (I:In w base g h l os ss)(T:Tb w base)(hl:l.length<=140737488351232)(hss:ss.length<=1000000)(hos:os.length<=1000000)(op a b n:Int)(ha:W a)(hb:W b)(hn:W n)(ho:op=4):Calls prog 161 #[.pointer (some ⟨g,0,none⟩),.int .i64 op,.int .u32 a,.int .u32 b,.int .u32 n] w fun e w'=>e=.returned (bQ (⟨h,l,[],[],some (Wd.lo (h.pc+4))⟩:Ev).res)/\In w' base g (⟨h,l,[],[],some (Wd.lo (h.pc+4))⟩:Ev).h (⟨h,l,[],[],some (Wd.lo (h.pc+4))⟩:Ev).m (os++(⟨h,l,[],[],some (Wd.lo (h.pc+4))⟩:Ev).out) (ss++(⟨h,l,[],[],some (Wd.lo (h.pc+4))⟩:Ev).av)/\Fr base w w':=by
 have HI:Hid (In w base g h l (os++[]) (ss++[])):=by unfold Hid;simpa using I
 have HI0:=kH I;obtain⟨c0,rfl,J⟩:=HI0.out;have Nc:=(J.hcell (by omega)).trans (aW J.ok 0);have p0:=J.ok.nH;have p1:=J.ok.jV;subst ho;go_enter func161,ntmps161;go_wp2_with (go_at_call 97;first|(refine(aF _ _ _ _ (by omega)).mono ?_;rintro e w' ⟨rfl,rfl⟩)|(refine(ai _ _ _ _ (by omega)).mono ?_;rintro e w' ⟨rfl,rfl⟩));unfold bQ;go_ret2;exact⟨rfl,HI.out,Fr.refl _ _⟩
theorem Nf (I:In w base g h l os ss)(T:Tb w base)(hl:l.length<=140737488351232)(hss:ss.length<=1000000)(hos:os.length<=1000000)(op a b n:Int)(ha:W a)(hb:W b)(hn:W n)(ho:op<=0\/5<=op/\op<=10\/op=57\/60<=op):Calls prog 161 #[.pointer (some ⟨g,0,none⟩),.int .i64 op,.int .u32 a,.int .u32 b,.int .u32 n] w fun e w'=>e=.returned (bQ (⟨h,l,[],[],none⟩:Ev).res)/\In w' base g (⟨h,l,[],[],none⟩:Ev).h (⟨h,l,[],[],none⟩:Ev).m (os++(⟨h,l,[],[],none⟩:Ev).out) (ss++(⟨h,l,[],[],none⟩:Ev).av)/\Fr base w w':=by
 have HI:Hid (In w base g h l (os++[]) (ss++[])):=by unfold Hid;simpa using I
 have b1:(op ==1)=false:=by simp;omega
 have b2:(op ==2)=false:=by simp;omega
 have b3:(op ==3)=false:=by simp;omega
 have b4:(op ==4)=false:=by simp;omega
 have b58:(op ==58)=false:=by simp;omega
 have b59:(op ==59)=false:=by simp;omega
 go_enter func161,ntmps161;go_wp2_with (go_at_call 97;first|(refine(aF _ _ _ _ (by omega)).mono ?_;rintro e w' ⟨rfl,rfl⟩)|(refine(ai _ _ _ _ (by omega)).mono ?_;rintro e w' ⟨rfl,rfl⟩));unfold bQ;go_ret2;exact⟨rfl,HI.out,Fr.refl _ _⟩
theorem Ng {w:World}{base g:Nat}{h:Hv}{l:List UInt8}{os:List Int}{ss:List (Int×Int)}(I:In w base g h l os ss)(T:Tb w base)(hl:l.length<=140737488351232)(hss:ss.length<=1000000)(hos:os.length<=1000000)(op a b n:Int)(ha:W a)(hb:W b)(hn:W n)(ho:11<=op/\op<=15):Calls prog 161 #[.pointer (some ⟨g,0,none⟩),.int .i64 op,.int .u32 a,.int .u32 b,.int .u32 n] w fun e w'=>e=.returned (bQ (bF h l op (Wd.lo (a+n))).res)/\In w' base g (bF h l op (Wd.lo (a+n))).h (bF h l op (Wd.lo (a+n))).m (os++(bF h l op (Wd.lo (a+n))).out) (ss++(bF h l op (Wd.lo (a+n))).av)/\Fr base w w':=by
 have HI:=kH I;have L:=dY I hl op (Wd.lo (a+n)) (Wd.vX _).1 (Wd.vX _).2;have e:(bF h l op (Wd.lo (a+n))).res.getD 0=aN l op (Wd.lo (a+n))/\(bF h l op (Wd.lo (a+n))).res.isSome=bM l op (Wd.lo (a+n))/\(bF h l op (Wd.lo (a+n))).h=(if bM l op (Wd.lo (a+n))=true then h else h.trap 3)/\(bF h l op (Wd.lo (a+n))).m=l/\(bF h l op (Wd.lo (a+n))).out=[]/\(bF h l op (Wd.lo (a+n))).av=[]:=by
  unfold bF;cases ok:bM l op (Wd.lo (a+n))with
  |false=>refine⟨?_,by simp,by simp,by simp,by simp,by simp⟩;unfold aN;simp[ok]
  |true=>simp
 obtain⟨e1,e2,e3,e4,e5,e6⟩:=e;unfold bQ;rw[e1,e2,e3,e4,e5,e6,apz,apz];generalize aN l op (Wd.lo (a+n))=X at *
 generalize bM l op (Wd.lo (a+n))=B at *
 generalize(if B=true then h else h.trap 3)=h' at *
 have L2:=kH L;unfold W at ha hb hn;have b1:(op ==1)=false:=by simp;omega
 have b2:(op ==2)=false:=by simp;omega
 have b3:(op ==3)=false:=by simp;omega
 have b4:(op ==4)=false:=by simp;omega
 have b58:(op ==58)=false:=by simp;omega
 have b59:(op ==59)=false:=by simp;omega
 go_enter func161,ntmps161;go_wp2_with (go_at_call 97;first|(refine(aF _ _ _ _ (by omega)).mono ?_;rintro e w' ⟨rfl,rfl⟩)|(refine(ai _ _ _ _ (by omega)).mono ?_;rintro e w' ⟨rfl,rfl⟩));refine L2.out.mono ?_;rintro e w' ⟨rfl,I2,C2⟩;have HI2:=kH I2;have ll:=kH C2;go_wp2_with fail;go_ret2;exact⟨rfl,HI2.out,HI.out.below ll.out⟩
theorem Jh {w:World}{base g:Nat}{h:Hv}{l:List UInt8}{os:List Int}{ss:List (Int×Int)}(I:In w base g h l os ss)(T:Tb w base)(hl:l.length<=140737488351232)(hss:ss.length<=1000000)(hos:os.length<=1000000)(op a b n:Int)(ha:W a)(hb:W b)(hn:W n)(ho:16<=op/\op<=18):Calls prog 161 #[.pointer (some ⟨g,0,none⟩),.int .i64 op,.int .u32 a,.int .u32 b,.int .u32 n] w fun e w'=>e=.returned (bQ (aH h l op (Wd.lo (a+n)) b).res)/\In w' base g (aH h l op (Wd.lo (a+n)) b).h (aH h l op (Wd.lo (a+n)) b).m (os++(aH h l op (Wd.lo (a+n)) b).out) (ss++(aH h l op (Wd.lo (a+n)) b).av)/\Fr base w w':=by
 have L:=dO I T hl hss op (Wd.lo (a+n)) b (Wd.vX _).1 (Wd.vX _).2 hb.1 hb.2;have e:(aH h l op (Wd.lo (a+n)) b).res=none/\(aH h l op (Wd.lo (a+n)) b).out=[]:=by unfold aH;split<;>exact⟨rfl,rfl⟩
 unfold bQ;rw[e.1,e.2,apz];generalize aH h l op (Wd.lo (a+n)) b=E at *
 have L2:=kH L;unfold W at ha hb hn;have b1:(op ==1)=false:=by simp;omega
 have b2:(op ==2)=false:=by simp;omega
 have b3:(op ==3)=false:=by simp;omega
 have b4:(op ==4)=false:=by simp;omega
 have b58:(op ==58)=false:=by simp;omega
 have b59:(op ==59)=false:=by simp;omega
 go_enter func161,ntmps161;go_wp2_with (go_at_call 97;first|(refine(aF _ _ _ _ (by omega)).mono ?_;rintro e w' ⟨rfl,rfl⟩)|(refine(ai _ _ _ _ (by omega)).mono ?_;rintro e w' ⟨rfl,rfl⟩));refine L2.out.mono ?_;rintro e w' ⟨rfl,I2,B2⟩;have HI2:=kH I2;have HB2:=kH B2;go_wp2_with fail;go_ret2;exact⟨rfl,HI2.out,HB2.out⟩
theorem Nh (I:In w base g h l os ss)(T:Tb w base)(hl:l.length<=140737488351232)(hss:ss.length<=1000000)(hos:os.length<=1000000)(op a b n:Int)(ha:W a)(hb:W b)(hn:W n)(ho:19<=op/\op<=27):Calls prog 161 #[.pointer (some ⟨g,0,none⟩),.int .i64 op,.int .u32 a,.int .u32 b,.int .u32 n] w fun e w'=>e=.returned (bQ (⟨h,l,[],[],some (Wd.eT (opn op) a n)⟩:Ev).res)/\In w' base g (⟨h,l,[],[],some (Wd.eT (opn op) a n)⟩:Ev).h (⟨h,l,[],[],some (Wd.eT (opn op) a n)⟩:Ev).m (os++(⟨h,l,[],[],some (Wd.eT (opn op) a n)⟩:Ev).out) (ss++(⟨h,l,[],[],some (Wd.eT (opn op) a n)⟩:Ev).av)/\Fr base w w':=by
 have HI:Hid (In w base g h l (os++[]) (ss++[])):=by unfold Hid;simpa using I
 have kc:=Jg T op ho.1 ho.2;have A:Hid (Calls prog 179 #[.int .i64 (opn op),.int .u32 a,.int .u32 n] w fun e w'=>e=.returned (.int .u32 (Wd.eT (opn op) a n))/\w'=w):=Ww.jE _ a n w ha.1 ha.2 hn.1 hn.2;unfold W at ha hb hn;have b1:(op ==1)=false:=by simp;omega
 have b2:(op ==2)=false:=by simp;omega
 have b3:(op ==3)=false:=by simp;omega
 have b4:(op ==4)=false:=by simp;omega
 have b58:(op ==58)=false:=by simp;omega
 have b59:(op ==59)=false:=by simp;omega
 unfold bQ;generalize Wd.eT (opn op) a n=X at *
 go_enter func161,ntmps161;go_wp2_with (go_at_call 97;first|(refine(aF _ _ _ _ (by omega)).mono ?_;rintro e w' ⟨rfl,rfl⟩)|(refine(ai _ _ _ _ (by omega)).mono ?_;rintro e w' ⟨rfl,rfl⟩));refine A.out.mono ?_;rintro e w9 ⟨rfl,hw9⟩;obtain rfl:=hw9.symm;go_wp2_with fail;go_ret2;exact⟨rfl,HI.out,Fr.refl _ _⟩
theorem yE (I:In w base g h l os ss)(T:Tb w base)(hl:l.length<=140737488351232)(hss:ss.length<=1000000)(hos:os.length<=1000000)(op a b n:Int)(ha:W a)(hb:W b)(hn:W n)(ho:28<=op/\op<=45):Calls prog 161 #[.pointer (some ⟨g,0,none⟩),.int .i64 op,.int .u32 a,.int .u32 b,.int .u32 n] w fun e w'=>e=.returned (bQ (⟨h,l,[],[],some (Wd.eT op a b)⟩:Ev).res)/\In w' base g (⟨h,l,[],[],some (Wd.eT op a b)⟩:Ev).h (⟨h,l,[],[],some (Wd.eT op a b)⟩:Ev).m (os++(⟨h,l,[],[],some (Wd.eT op a b)⟩:Ev).out) (ss++(⟨h,l,[],[],some (Wd.eT op a b)⟩:Ev).av)/\Fr base w w':=by
 have HI:Hid (In w base g h l (os++[]) (ss++[])):=by unfold Hid;simpa using I
 have A:Hid (Calls prog 179 #[.int .i64 op,.int .u32 a,.int .u32 b] w fun e w'=>e=.returned (.int .u32 (Wd.eT op a b))/\w'=w):=Ww.jE _ a b w ha.1 ha.2 hb.1 hb.2;unfold W at ha hb hn;have b1:(op ==1)=false:=by simp;omega
 have b2:(op ==2)=false:=by simp;omega
 have b3:(op ==3)=false:=by simp;omega
 have b4:(op ==4)=false:=by simp;omega
 have b58:(op ==58)=false:=by simp;omega
 have b59:(op ==59)=false:=by simp;omega
 unfold bQ;generalize Wd.eT op a b=X at *
 go_enter func161,ntmps161;go_wp2_with (go_at_call 97;first|(refine(aF _ _ _ _ (by omega)).mono ?_;rintro e w' ⟨rfl,rfl⟩)|(refine(ai _ _ _ _ (by omega)).mono ?_;rintro e w' ⟨rfl,rfl⟩));refine A.out.mono ?_;rintro e w9 ⟨rfl,hw9⟩;obtain rfl:=hw9.symm;go_wp2_with fail;go_ret2;exact⟨rfl,HI.out,Fr.refl _ _⟩
theorem Ni {w:World}{base g:Nat}{h:Hv}{l:List UInt8}{os:List Int}{ss:List (Int×Int)}(I:In w base g h l os ss)(T:Tb w base)(hl:l.length<=140737488351232)(hss:ss.length<=1000000)(hos:os.length<=1000000)(op a b n:Int)(ha:W a)(hb:W b)(hn:W n)(ho:46<=op/\op<=56):Calls prog 161 #[.pointer (some ⟨g,0,none⟩),.int .i64 op,.int .u32 a,.int .u32 b,.int .u32 n] w fun e w'=>e=.returned (bQ (aK h l op a b).res)/\In w' base g (aK h l op a b).h (aK h l op a b).m (os++(aK h l op a b).out) (ss++(aK h l op a b).av)/\Fr base w w':=by
 have L:=uz I T hl hss op a b ha.1 ha.2 hb.1 hb.2;have e:(aK h l op a b).out=[]:=by
  unfold aK gB eU iN;repeat' split
  all_goals rfl
 rw[e,apz];unfold bQ at L ⊢;generalize aK h l op a b=E at *
 have L2:=kH L;generalize E.res.getD 0=X at *
 generalize E.res.isSome=Y at *
 unfold W at ha hb hn;have b1:(op ==1)=false:=by simp;omega
 have b2:(op ==2)=false:=by simp;omega
 have b3:(op ==3)=false:=by simp;omega
 have b4:(op ==4)=false:=by simp;omega
 have b58:(op ==58)=false:=by simp;omega
 have b59:(op ==59)=false:=by simp;omega
 go_enter func161,ntmps161;go_wp2_with (go_at_call 97;first|(refine(aF _ _ _ _ (by omega)).mono ?_;rintro e w' ⟨rfl,rfl⟩)|(refine(ai _ _ _ _ (by omega)).mono ?_;rintro e w' ⟨rfl,rfl⟩));refine L2.out.mono ?_;rintro e w' ⟨rfl,I2,B2⟩;have HI2:=kH I2;have HB2:=kH B2;go_wp2_with fail;go_ret2;exact⟨rfl,HI2.out,HB2.out⟩
theorem Nj {w:World}{base g:Nat}{h:Hv}{l:List UInt8}{os:List Int}{ss:List (Int×Int)}(I:In w base g h l os ss)(T:Tb w base)(hl:l.length<=140737488351232)(hss:ss.length<=1000000)(hos:os.length<=1000000)(op a b n:Int)(ha:W a)(hb:W b)(hn:W n)(ho:op=58):Calls prog 161 #[.pointer (some ⟨g,0,none⟩),.int .i64 op,.int .u32 a,.int .u32 b,.int .u32 n] w fun e w'=>e=.returned (bQ (bA h l).res)/\In w' base g (bA h l).h (bA h l).m (os++(bA h l).out) (ss++(bA h l).av)/\Fr base w w':=by
 have L:=tO I hos;have e:(bA h l).res=none/\(bA h l).av=[]/\(bA h l).m=l:=by
  unfold bA;repeat' split
  all_goals exact⟨rfl,rfl,rfl⟩
 unfold bQ;rw[e.1,e.2.1,e.2.2,apz];generalize bA h l=E at *
 have L2:=kH L;subst ho;unfold W at ha hb hn;go_enter func161,ntmps161;go_wp2_with (go_at_call 97;first|(refine(aF _ _ _ _ (by omega)).mono ?_;rintro e w' ⟨rfl,rfl⟩)|(refine(ai _ _ _ _ (by omega)).mono ?_;rintro e w' ⟨rfl,rfl⟩));refine L2.out.mono ?_;rintro e w' ⟨rfl,I2,B2⟩;have HI2:=kH I2;have HB2:=kH B2;go_wp2_with fail;go_ret2;exact⟨rfl,HI2.out,HB2.out⟩
theorem Ji {w:World}{base g:Nat}{h:Hv}{l:List UInt8}{os:List Int}{ss:List (Int×Int)}(I:In w base g h l os ss)(T:Tb w base)(hl:l.length<=140737488351232)(hss:ss.length<=1000000)(hos:os.length<=1000000)(op a b n:Int)(ha:W a)(hb:W b)(hn:W n)(ho:op=59):Calls prog 161 #[.pointer (some ⟨g,0,none⟩),.int .i64 op,.int .u32 a,.int .u32 b,.int .u32 n] w fun e w'=>e=.returned (bQ (⟨h.trap 6,l,[],[],none⟩:Ev).res)/\In w' base g (⟨h.trap 6,l,[],[],none⟩:Ev).h (⟨h.trap 6,l,[],[],none⟩:Ev).m (os++(⟨h.trap 6,l,[],[],none⟩:Ev).out) (ss++(⟨h.trap 6,l,[],[],none⟩:Ev).av)/\Fr base w w':=by have HI:=kH I;have L2:=kH (dK I 6);unfold bQ;rw[apz,apz];subst ho;unfold W at ha hb hn;go_enter func161,ntmps161;go_wp2_with (go_at_call 97;first|(refine(aF _ _ _ _ (by omega)).mono ?_;rintro e w' ⟨rfl,rfl⟩)|(refine(ai _ _ _ _ (by omega)).mono ?_;rintro e w' ⟨rfl,rfl⟩));refine L2.out.mono ?_;rintro e w' ⟨rfl,I2,B2⟩;have HI2:=kH I2;have HB2:=kH B2;go_wp2_with fail;go_ret2;exact⟨rfl,HI2.out,HI.out.below HB2.out⟩
theorem oH (I:In w base g h l os ss)(T:Tb w base)(hl:l.length<=140737488351232)(hss:ss.length<=1000000)(hos:os.length<=1000000)(op a b n:Int)(ha:W a)(hb:W b)(hn:W n):Calls prog 161 #[.pointer (some ⟨g,0,none⟩),.int .i64 op,.int .u32 a,.int .u32 b,.int .u32 n] w fun e w'=>e=.returned (bQ (fT h l op a b n).res)/\In w' base g (fT h l op a b n).h (fT h l op a b n).m (os++(fT h l op a b n).out) (ss++(fT h l op a b n).av)/\Fr base w w':=by
 unfold fT;by_cases h1:op=1
 ·rw[at7 h1];exact adb I T hl hss hos op a b n ha hb hn h1
 rw[at6 h1];by_cases h2:op=2
 ·rw[at7 h2];exact ade I T hl hss hos op a b n ha hb hn h2
 rw[at6 h2];by_cases h3:op=3
 ·rw[at7 (.inl h3)];exact adf I T hl hss hos op a b n ha hb hn h3
 by_cases h4:op=4
 ·rw[at7 (.inr h4)];exact adg I T hl hss hos op a b n ha hb hn h4
 rw[ak];by_cases h5:11<=op/\op<=15
 ·rw[at7 h5];exact Ng I T hl hss hos op a b n ha hb hn h5
 rw[at6 h5];by_cases h6:16<=op/\op<=18
 ·rw[at7 h6];exact Jh I T hl hss hos op a b n ha hb hn h6
 rw[at6 h6];by_cases h7:19<=op/\op<=27
 ·rw[at7 h7];exact Nh I T hl hss hos op a b n ha hb hn h7
 rw[at6 h7];by_cases h8:28<=op/\op<=45
 ·rw[at7 h8];exact yE I T hl hss hos op a b n ha hb hn h8
 rw[at6 h8];by_cases h9:46<=op/\op<=56
 ·rw[at7 h9];exact Ni I T hl hss hos op a b n ha hb hn h9
 rw[at6 h9];by_cases h10:op=58
 ·rw[at7 h10];exact Nj I T hl hss hos op a b n ha hb hn h10
 rw[at6 h10];by_cases h11:op=59
 ·rw[at7 h11];exact Ji I T hl hss hos op a b n ha hb hn h11
 rw[at6 h11];exact Nf I T hl hss hos op a b n ha hb hn (by omega)
end Hc
namespace Hc
variable [Inhabited Go.Proofs.YtiadhbmnfjfioaaGreatDoor.Hc.bN]
open Mm Hh

theorem DT {w:World}{base g:Nat}{h:Hv}{l:List UInt8}{os:List Int}{ss:List (Int×Int)}(I:In w base g h l os ss)(T:Tb w base)(hl:l.length<=140737488351232)(hss:ss.length<=1000000)(hos:os.length<=1000000)(op rd r1 r2 im:Int)(d0:0<=rd)(d1:rd<32)(s0:0<=r1)(s1:r1<32)(t0:0<=r2)(t1:r2<32)(i0 : -2147483648<=im)(i1:im<=2147483647):Calls prog 135 #[.pointer (some ⟨g,0,none⟩),.agg #[.int .i64 op,.int .i64 rd,.int .i64 r1,.int .i64 r2,.int .i32 im]] w fun e w'=>e=.returned (.tuple #[])/\In w' base g (ins h l op rd r1 r2 im).h (ins h l op rd r1 r2 im).m (os++(ins h l op rd r1 r2 im).out) (ss++(ins h l op rd r1 r2 im).av)/\Fr base w w':=by
 obtain⟨r1,rfl⟩:=apt s0;obtain⟨r2,rfl⟩:=apt t0;have HI:Hid (In w base g h l os ss):=I;have HT:Hid (Tb w base):=T;obtain⟨c0,rfl,J⟩:=I;have hr1:r1<32:=by omega
 have hr2:r2<32:=by omega
 have k1:=J.reg hr1;have k2:=J.reg hr2;have hg:=J.lt;have hbl:base<=w.heap.size:=J.ay;have wa:=W.reg J.ok r1;have wb:=W.reg J.ok r2;have wn:=W.lo im;have HE:Hid (ins c0.h l op rd (r1:Int) (r2:Int) im=done (fT c0.h l op (rg c0.h r1) (rg c0.h r2) (im%4294967296)) rd.toNat (qD c0.h op (rg c0.h r1) (rg c0.h r2) (im%4294967296))):=rfl;have ok:Hid ((fT c0.h l op (rg c0.h r1) (rg c0.h r2) (im%4294967296)).Ok l):=Da J.ok l wa wb wn;have hx:Hid (W (qD c0.h op (rg c0.h r1) (rg c0.h r2) (im%4294967296))):=.qD;have N:Hid (∀W1,In W1 base g c0.h l os ss->Calls prog 160 #[.pointer (some ⟨g,0,none⟩),.int .i64 op,.int .u32 (rg c0.h r1),.int .u32 (rg c0.h r2),.int .u32 (im%4294967296)] W1 fun e w'=>e=.returned (.int .u32 (qD c0.h op (rg c0.h r1) (rg c0.h r2) (im%4294967296)))/\Gr W1 w'):=fun W1 I1=>(LA I1 op _ _ _ wa.1 wa.2 wb.1 wb.2 wn.1 wn.2).mono fun e w' h=>⟨h.1,by rw[h.2];exact Gr.refl _⟩
 have E:Hid (∀W1,In W1 base g c0.h l os ss->Tb W1 base->Calls prog 161 #[.pointer (some ⟨g,0,none⟩),.int .i64 op,.int .u32 (rg c0.h r1),.int .u32 (rg c0.h r2),.int .u32 (im%4294967296)] W1 fun e w'=>e=.returned (bQ (fT c0.h l op (rg c0.h r1) (rg c0.h r2) (im%4294967296)).res)/\In w' base g (fT c0.h l op (rg c0.h r1) (rg c0.h r2) (im%4294967296)).h (fT c0.h l op (rg c0.h r1) (rg c0.h r2) (im%4294967296)).m (os++(fT c0.h l op (rg c0.h r1) (rg c0.h r2) (im%4294967296)).out) (ss++(fT c0.h l op (rg c0.h r1) (rg c0.h r2) (im%4294967296)).av)/\Fr base W1 w'):=fun W1 I1 T1=>oH I1 T1 hl hss hos op _ _ _ wa wb wn
 rw[HE.out];generalize fT c0.h l op (rg c0.h r1) (rg c0.h r2) (im%4294967296)=Z at *
 generalize qD c0.h op (rg c0.h r1) (rg c0.h r2) (im%4294967296)=X at *
 generalize rg c0.h r1=xa at *
 generalize rg c0.h r2=xb at *
 generalize c0.h=h0 at *
 clear J HE wa wb wn T;unfold done bQ at *
 simp only at *
 have hw0:=kH ok.out.res;clear ok;generalize Z.res=rr at *
 cases rr with
 |none=>
  have e0:Z.h.put rd.toNat none=Z.h:=rfl;rw[e0];clear e0;generalize Z.h=HH at *
  go_enter func135,ntmps135;go_wp2_with fail;go_quiet (fail);go_wp2_with fail;refine(N.out _ (HI.out.of (((Gr.refl _).alloc _).drewN _))).mono ?_;rintro e w1 ⟨rfl,G0⟩;have G1:=(((Gr.refl _).alloc _).drewN _).trans G0;have HB1:=kH ((G0.block _ (by simp)).trans (at5 w _));have HI1:=kH (HI.out.of G1);have rY:Hid (Fr base w w1):=.bD G1 hbl;have HT1:=kH (HT.out.of rY.out);have q0:w1.cell? ⟨w.heap.size,0,none⟩=some (.int .i64 op):=atZ _ _ _ _ _ _ HB1.out;clear G0 G1 N k1 k2 hg;go_wp2_with fail;refine(E.out _ HI1.out HT1.out).mono ?_;rintro e w2 ⟨rfl,I2,F2⟩;have HB2:=kH ((F2.keep _ _ _ _ HB1.out (by decide) (by decide) (by decide)).trans HB1.out);have q1:w2.cell? ⟨w.heap.size,1,none⟩=some (.int .i64 rd):=atZ _ _ _ _ _ _ HB2.out;have HI2:=kH I2;have pX:=kH (rY.out.trans F2);clear I2 F2 E HB1 HB2 HI1 rY HT1 HT HI q0;generalize hw:w2=w3 at *
  have HI3:=kH HI2;have Jj:=kH pX;clear hw HI2 pX q1;obtain⟨c1,hc1,J1⟩:=HI3.out;have QS:w3.cell? ⟨g,35,none⟩=some (.int .i64 HH.state):=(J1.hcell (by omega)).trans (by rw[<-hc1];exact aW J1.ok 3);have Nc:w3.cell? ⟨g,32,none⟩=some (.int .u32 HH.pc):=(J1.hcell (by omega)).trans (by rw[<-hc1];exact aW J1.ok 0);have fz:=J1.fz;have HP:Hid (In (w3.setCell ⟨g,32,none⟩ (.int .u32 X)) base g (HH.go X) Z.m (os++Z.out) (ss++Z.av)):=by
   have:=(J1.set (by omega) (C8 J1.ok X) (J1.ok.go hx.out.1 hx.out.2)).rF;rw[<-hc1];exact this
  have HQ:Hid (Fr base w (w3.setCell ⟨g,32,none⟩ (.int .u32 X))):=Jj.out.trans (HI3.out.below ((Ch.refl g w3).setCell _ _));clear J1 hc1;by_cases h0:HH.state=0
  ·have e1:Hid (HH.on X=HH.go X):=by unfold Hid Hv.on;rw[at7 h0]
   rw[h0]at QS;clear h0;generalize HH.pc=pc at *
   go_wp2_with fail;go_end0;exact⟨rfl,by rw[e1.out];exact HP.out,HQ.out⟩
  ·have e1:Hid (HH.on X=HH):=by unfold Hid Hv.on;rw[at6 h0]
   have b0:(HH.state ==0)=false:=by simp[h0]
   clear h0;generalize HH.state=st at *
   generalize HH.pc=pc at *
   go_wp2_with fail;go_end0;exact⟨rfl,by rw[e1.out];exact HI3.out,Jj.out⟩
 |some x=>
  have e0:Z.h.put rd.toNat (some x)=Z.h.set rd.toNat x:=rfl;rw[e0];clear e0;have S:Hid (∀w2,In w2 base g Z.h Z.m (os++Z.out) (ss++Z.av)->Calls prog 162 #[.pointer (some ⟨g,0,none⟩),.int .i64 rd,.int .u32 x] w2 fun e w'=>e=.returned (.tuple #[])/\In w' base g (Z.h.set rd.toNat x) Z.m (os++Z.out) (ss++Z.av)/\Ch g w2 w'):=fun w2 I2=>yl I2 rd x d0 d1 hw0.out.1 hw0.out.2
  generalize Z.h.set rd.toNat x=HH at *
  simp only[aqw,Option.isSome_some]at E;go_enter func135,ntmps135;go_wp2_with fail;go_quiet (fail);go_wp2_with fail;refine(N.out _ (HI.out.of (((Gr.refl _).alloc _).drewN _))).mono ?_;rintro e w1 ⟨rfl,G0⟩;have G1:Gr w w1:=(((Gr.refl _).alloc _).drewN _).trans G0;have HB1:Hid (w1.heap[w.heap.size]?=some (.cells #[.int .i64 op,.int .i64 rd,.int .i64 r1,.int .i64 r2,.int .i32 im] 59 (0,0))):=(G0.block _ (by simp)).trans (at5 w _);have HI1:Hid (In w1 base g h0 l os ss):=HI.out.of G1;have rY:Hid (Fr base w w1):=.bD G1 hbl;have HT1:Hid (Tb w1 base):=HT.out.of rY.out;have q0:w1.cell? ⟨w.heap.size,0,none⟩=some (.int .i64 op):=atZ _ _ _ _ _ _ HB1.out;clear G0 G1 N k1 k2 hg;go_wp2_with fail;refine(E.out _ HI1.out HT1.out).mono ?_;rintro e w2 ⟨rfl,I2,F2⟩;have HB2:Hid (w2.heap[w.heap.size]?=some (.cells #[.int .i64 op,.int .i64 rd,.int .i64 r1,.int .i64 r2,.int .i32 im] 59 (0,0))):=(F2.keep _ _ _ _ HB1.out (by decide) (by decide) (by decide)).trans HB1.out;have q1:w2.cell? ⟨w.heap.size,1,none⟩=some (.int .i64 rd):=atZ _ _ _ _ _ _ HB2.out;have HI2:Hid (In w2 base g Z.h Z.m (os++Z.out) (ss++Z.av)):=I2;have pX:Hid (Fr base w w2):=rY.out.trans F2;clear I2 F2 E HB1 HB2 HI1 rY HT1 HT HI q0;go_wp2_with fail;refine(S.out _ HI2.out).mono ?_;rintro e w3 ⟨rfl,I3,C3⟩;have HI3:Hid (In w3 base g HH Z.m (os++Z.out) (ss++Z.av)):=I3;have Jj:Hid (Fr base w w3):=pX.out.trans (HI2.out.below C3);clear I3 C3 S HI2 pX q1;obtain⟨c1,hc1,J1⟩:=HI3.out;have QS:w3.cell? ⟨g,35,none⟩=some (.int .i64 HH.state):=(J1.hcell (by omega)).trans (by rw[<-hc1];exact aW J1.ok 3);have Nc:w3.cell? ⟨g,32,none⟩=some (.int .u32 HH.pc):=(J1.hcell (by omega)).trans (by rw[<-hc1];exact aW J1.ok 0);have fz:=J1.fz;have HP:Hid (In (w3.setCell ⟨g,32,none⟩ (.int .u32 X)) base g (HH.go X) Z.m (os++Z.out) (ss++Z.av)):=by
   have:=(J1.set (by omega) (C8 J1.ok X) (J1.ok.go hx.out.1 hx.out.2)).rF;rw[<-hc1];exact this
  have HQ:Hid (Fr base w (w3.setCell ⟨g,32,none⟩ (.int .u32 X))):=Jj.out.trans (HI3.out.below ((Ch.refl g w3).setCell _ _));clear J1 hc1;by_cases h0:HH.state=0
  ·have e1:Hid (HH.on X=HH.go X):=by unfold Hid Hv.on;rw[at7 h0]
   rw[h0]at QS;clear h0;generalize HH.pc=pc at *
   go_wp2_with fail;go_end0;exact⟨rfl,by rw[e1.out];exact HP.out,HQ.out⟩
  ·have e1:Hid (HH.on X=HH):=by unfold Hid Hv.on;rw[at6 h0]
   have b0:(HH.state ==0)=false:=by simp[h0]
   clear h0;generalize HH.state=st at *
   generalize HH.pc=pc at *
   go_wp2_with fail;go_end0;exact⟨rfl,by rw[e1.out];exact HI3.out,Jj.out⟩
end Hc
namespace Bk
open Mm Hh

def vK (x:Int):List Value:=[.int .i64 (Dc.aO x),.int .i64 (Dc.iF (Dc.aJ (Dc.aO x)) x),.int .i64 (Dc.bZ (Dc.aJ (Dc.aO x)) x),.int .i64 (Dc.bV (Dc.aJ (Dc.aO x)) x),.int .i32 (Dc.bS (Dc.aJ (Dc.aO x)) x)]
def vL (xs:List Int):List Value:=xs.flatMap vK
theorem Nk (xs:List Int)(x:Int):vL (xs++[x])=vL xs++vK x:=by simp[vL]
theorem FY:∀(xs:List Int) (i j:Nat) (x:Int),xs[i]?=some x→j<5→(vL xs)[i*5+j]?=(vK x)[j]?
 | [],i,j,x,h,_=>by simp at h
 |p::r,0,j,x,h,hj=>by
  simp at h;subst h;show(vK p++vL r)[0*5+j]?=_
  rw[aqI,apu,apA (by simpa[vK]using hj)]
 |p::r,i+1,j,x,h,hj=>by
  have ih:=FY r i j x (by simpa using h) hj;show(vK p++vL r)[(i+1)*5+j]?=_
  rw[apv (by simp[vK];omega)];rw[show(i+1)*5+j-(vK p).length=i*5+j by simp[vK];omega];exact ih
end Bk
end Go.Proofs.YtiadhbmnfjfioaaGreatDoor
