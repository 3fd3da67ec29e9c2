/- ours -/
import Derived.Test.YtiadhbmnfjfioaaGreatDoorU01
set_option linter.unusedVariables false
set_option linter.unusedSimpArgs false
set_option maxHeartbeats 8000000
set_option maxRecDepth 100000
set_option linter.unusedSectionVars false
namespace Go.Proofs.YtiadhbmnfjfioaaGreatDoor
open Go.Value (int tuple)
open Go.IntKind (i64)
open Go.Ending (returned)
open Go.Proofs.Tryz hiding cs d0 d1 wide
open Go.ChangeShapes Go.WideShapes Go.ChangeAt Go.RowKit
variable{ad:Addr}{c:Array Value}{op a x b nx p bf bt steps rd r1 r2 im pc t nm sl':Int}{ax s ps:List (Int×Int)}{out o:List Int}{m l:List UInt8}{n k j i:Nat}{res r:Option Int}{P:Prop}{w:World}
namespace Hh
open Mm Wd
variable{n a b op x:Int}{h:Hv}{l:List UInt8}
def W (x:Int):Prop:=0<=x/\x<4294967296
theorem W.lo (n:Int):W (lo n):=xQ n
theorem W.tr (b:Bool):W (tr b):=by unfold Wd.tr W;cases b<;>simp
theorem W.hi (n:Int):W (hi n):=by unfold Wd.hi W;omega
theorem W.nat {n:Nat}(h:n<2^32):W (n:Int):=by unfold W;omega
theorem W.lt (h:W a):a.toNat<2^32:=by unfold W at h;omega
theorem W.jc (ha:W a)(hb:W b):W (jc a b):=W.nat (atB _ hb.lt)
theorem W.uw (ha:W a)(hb:W b):W (uw a b):=W.nat (atF ha.lt hb.lt)
theorem W.Cb (ha:W a)(hb:W b):W (Cb a b):=W.nat (Nat.xor_lt_two_pow ha.lt hb.lt)
theorem W.div (ha:W a)(hb:0<=b):W (a/b):=by
 unfold W at *
 exact⟨atO ha.1 hb,Int.lt_of_le_of_lt (Int.ediv_le_self b ha.1) ha.2⟩
theorem W.mod (hb:W b)(h:¬b=0):W (a%b):=by
 unfold W at *
 have:=Int.emod_nonneg a h;have:=Int.emod_lt_of_pos a (show 0<b by omega);omega
theorem W.ite {p:Prop}[Decidable p](ha:W a)(hb:W b):W (if p then a else b):=by split<;>assumption
theorem W.fB (ha:W a)(hb:W b):W (fB op a b):=by
 have h0:W 0:=by unfold W;omega
 have h1:W 4294967295:=by unfold W;omega
 have p:=aey b hb.1;unfold Wd.fB;refine .ite (.lo _) (.ite (.lo _) (.ite (ha.jc hb) (.ite (ha.uw hb) (.ite (ha.Cb hb) (.ite (.lo _) (.ite (ha.div ab) (.ite (.lo _) (.ite (.tr _) (.ite (.tr _) (.ite (.lo _) (.ite (.hi _) (.ite (.hi _) (.ite (.hi _) (.ite ?_ (.ite ?_ (.ite ?_ (.ite ?_ h0)))))))))))))))))
 ·exact .ite h1 (.lo _)
 ·exact .ite ha (.lo _)
 ·exact .ite h1 (ha.div hb.1)
 ·unfold rmu;split
  ·exact ha
  ·exact W.mod hb bo
theorem W.nX (ha:W a)(hb:W b):W (nX op a b):=by
 have h0:W 0:=by unfold W;omega
 unfold Wd.nX;exact .ite hb (.ite (.lo _) (.ite (ha.Cb hb) (.ite (ha.jc hb) (.ite (ha.uw hb) (.ite (.ite ha hb) (.ite (.ite hb ha) (.ite (.ite ha hb) (.ite (.ite hb ha) h0))))))))
theorem W.aT (l:List UInt8)(op a:Int):W (aT l op a):=by
 have h0:W 0:=by unfold W;omega
 unfold Mm.aT;refine .ite ?_ h0;have h:=l9 l a.toNat (nW op);have c:=Ig l a.toNat op;generalize raw l a.toNat (nW op)=x at *
 unfold wide W;repeat' split
 all_goals omega
theorem W.rX:W (rX h op a b n):=by unfold Hh.rX;refine .ite ?_ (.ite (.lo _) (.lo _));have:=xQ (a+n);unfold W;omega
theorem W.reg (o:h.Ok)(i):W (rg h i):=o.reg i
theorem bK (h:bR l 13 a=true):eP l 18 a=true:=h
structure Ev.Ok (e:Ev) (l:List UInt8):Prop where
 h:e.h.Ok
 m:e.m.length=l.length
 res:W (e.res.getD 0)
 out:e.out.length<=1
 ax:e.ax.length<=1
theorem lC (ok:eP l op a=true):(jb l op a x).length=l.length:=by unfold jb;rw[ok];exact jD _ _ _ _
theorem fZ (oh:h.Ok)(om:m.length=l.length)(w:W (res.getD 0))(oo:out.length<=1)(os:ax.length<=1):Ev.Ok ⟨h,m,out,ax,res⟩ l:=⟨oh,om,w,oo,os⟩
theorem W.zero:W 0:=by unfold W;omega
theorem W.one:W 1:=by unfold W;omega
theorem Ku (o:h.Ok)(l)(op a):(bJ h l op a).Ok l:=by
 unfold bJ;split
 ·exact fZ o rfl (.aT _ _ _) aq aq
 ·exact fZ (o.trap 3) rfl .zero aq aq
theorem E9 (o:h.Ok)(l)(op a x):(aI h l op a x).Ok l:=by
 unfold aI;split
 ·exact fZ o (lC bo) .zero aq aq
 ·exact fZ (o.trap 4) rfl .zero aq aq
theorem Kv (o:h.Ok)(l)(op a b)(ha:W a):(aN h l op a b).Ok l:=by
 unfold aN;split
 ·unfold ik;split
  ·exact fZ (o.hold true ha.1 ha.2) rfl (.aT _ _ _) aq aq
  ·exact fZ (o.trap 3) rfl .zero aq aq
 ·split
  ·unfold fC;split
   ·split
    ·exact fZ (o.hold false (x:=0) ab ab) (lC (bK bo)) .zero aq aq
    ·exact fZ (o.hold false (x:=0) ab ab) rfl .one aq aq
   ·exact fZ (o.trap 4) rfl .zero aq aq
  ·unfold jv;split
   ·exact fZ o (lC (bK bo)) (.aT _ _ _) aq aq
   ·exact fZ (o.trap 4) rfl .zero aq aq
theorem Kz (o:h.Ok)(l):(bE h l).Ok l:=by
 unfold bE;split
 ·exact fZ o.halt rfl .zero aq aq
 ·split
  ·exact fZ o rfl .zero aq aq
  ·exact fZ (o.trap 5) rfl .zero aq aq
theorem Fb (o:h.Ok)(l)(ha:W a)(hb:W b)(hn:W n):(gN h l op a b n).Ok l:=by
 unfold gN;split
 ·exact fZ o rfl hn aq aq
 split
 ·exact fZ o rfl (.lo _) aq aq
 split
 ·exact fZ o rfl (.lo _) aq aq
 split
 ·exact Ku o l _ _
 split
 ·exact E9 o l _ _ _
 split
 ·exact fZ o rfl (ha.fB hn) aq aq
 split
 ·exact fZ o rfl (ha.fB hb) aq aq
 split
 ·exact Kv o l _ _ _ ha
 split
 ·exact Kz o l
 split
 ·exact fZ (o.trap 6) rfl .zero aq aq
 ·exact fZ o rfl .zero aq aq
theorem aaV (o:h.Ok)(r){x}(w:W (x.getD 0)):(h.put r x).Ok:=by
 cases x with
 |none=>exact o
 |some x=>exact o.set r w.1 w.2
theorem aeV (o:h.Ok)(w:W x):(h.on x).Ok:=by
 unfold Hv.on;split
 ·exact o.go w.1 w.2
 ·exact o
end Hh
namespace Mi
open Mm Wd Hh
structure Mv where
 op:Int
 d:Int
 a:Int
 b:Int
 n:Int
structure Rn where
 h:Hv
 m:List UInt8
 out:List Int
 n:Nat
 ax:List (Int×Int)
 tm:List Int
 here:Int
 own:Bool
 over:Bool
def Rn.get (r:Rn) (k:Int):Int:=if k<32 then rg r.h k.toNat else r.tm.getD (k-32).toNat 0
def Rn.put (r:Rn) (k x:Int):Rn:=if 32<=k then { r with tm:=r.tm.set (k-32).toNat x }else { r with h:=r.h.set k.toNat x }
def Rn.stop (r:Rn) (pc:Int):Rn:={ r with h:=r.h.go pc,over:=true }
def Rn.trap (r:Rn) (c:Int):Rn:={ r with h:=(r.h.trap c).go r.here,over:=true }
def hits (bf bt p:Int):Nat→Bool
 |0=>false
 |k+1=>hits bf bt p k ||decide (bf<=lo (p+k)/\lo (p+k)<bt)
def Rn.stored (r:Rn) (bf bt:Int) (p:Int) (many:Nat):Rn:={ r with ax:=r.ax++[(p,(many:Int))],own:=r.own ||hits bf bt p many }
def Cu (r:Rn) (op p d:Int):Rn:=if bR r.m op p=true then r.put d (aT r.m op p)else r.trap 3
def vD (bf bt:Int) (r:Rn) (op p x:Int):Rn:=if eP r.m op p=true then { r with m:=jb r.m op p x }.stored bf bt p (iD op)else r.trap 4
def mLr (r:Rn) (a d:Int):Rn:=if bR r.m 13 a=true then { r with h:=r.h.hold true a }.put d (aT r.m 13 a)else r.trap 3
def mSc (bf bt:Int) (r:Rn) (a b d:Int):Rn:=if bR r.m 13 a=true then(if r.h.held=true/\r.h.aW=a then({ r with h:=r.h.hold false 0,m:=jb r.m 18 a b }.stored bf bt a 4).put d 0 else { r with h:=r.h.hold false 0 }.put d 1)else r.trap 4
def OE (bf bt:Int) (r:Rn) (op a b d:Int):Rn:=if bR r.m 13 a=true then({ r with m:=jb r.m 18 a (nX op (aT r.m 13 a) b) }.stored bf bt a 4).put d (aT r.m 13 a)else r.trap 4
def Cw (bf bt:Int) (r:Rn) (op a b d:Int):Rn:=if op=46 then mLr r a d else if op=47 then mSc bf bt r a b d else OE bf bt r op a b d
def vE (r:Rn):Rn:=if rg r.h 17=0 then { r with h:=r.h.halt.go r.here,over:=true }else if rg r.h 17=1 then { r with out:=r.out++[rg r.h 10] }else r.trap 5
def KA (steps:Int) (r:Rn) (n:Int):Rn:=if(r.n:Int)=steps\/r.own=true then r.stop n else { r with n:=r.n+1,here:=n }
def xC (bf bt:Int) (r:Rn) (c op:Int) (i:Mv):Rn:=
 if c=100 then(if holds op (r.get i.a) (r.get i.b)=true then r.stop i.n else r)
 else if c=200 then Cu r op (lo (r.get i.a+i.n)) i.d
 else if c=300 then vD bf bt r op (lo (r.get i.a+i.n)) (r.get i.b)
 else if c=400 then r.put i.d (fB op (r.get i.a) (r.get i.b))
 else if c=500 then r.put i.d (fB op (r.get i.a) i.n)
 else if c=600 then Cw bf bt r op (r.get i.a) (r.get i.b) i.d else r
def jK (bf bt steps:Int) (r:Rn) (i:Mv):Rn:=
 if i.op=1 then KA steps r i.n else if i.op=2 then r.put i.d i.n else if i.op=3 then r.stop i.n
 else if i.op=4 then r.stop (lo (r.get i.a+i.n)-lo (r.get i.a+i.n)%2)else if i.op=5 then vE r else if i.op=6 then r.trap 6
 else xC bf bt r (i.op-i.op%100) (i.op%100) i
def named (op:Int):Int:=
 if op=1\/op=3 then 8 else if op=2 then 9 else if op=4 then 10 else if op=5\/op=6 then 0
 else if 105<=op/\op<=110 then 14 else if 211<=op/\op<=215 then 11 else if 316<=op/\op<=318 then 14
 else if 428<=op/\op<=445 then 7 else if 528<=op/\op<=545 then 11 else if 646<=op/\op<=656 then 7 else -1
def bZ (has:Bool) (k:Int):Bool:=decide ((has=true\/k=0)/\0<=k/\k<36)
def eT (i:Mv):Bool:=decide (0<=named i.op) && (decide (8<=named i.op\/i.n=0) && (bZ (decide (named i.op%2=1)) i.d && (bZ (decide (named i.op/2%2=1)) i.a && bZ (decide (named i.op/4%2=1)) i.b)))
def pO (code:List Mv):Bool:=decide (code.length<=200) && code.all eT
def bF (bf bt steps:Int) (r:Rn):List Mv→Rn
 | []=>r
 |i::is=>if r.over=true then r else bF bf bt steps (jK bf bt steps r i) is
def mend (r:Rn):Rn:=if r.over=false/\0<r.n then { r with h:=r.h.go (lo (r.here+4)) }else r
def mstart (h:Hv) (l:List UInt8):Rn:=⟨h,l,[],0,[],[0,0,0,0],h.pc,false,false⟩
def dI (bf bt steps:Int) (h:Hv) (l:List UInt8) (code:List Mv):Rn:=mend (bF bf bt steps (mstart h l) code)
structure Rn.Ok (r:Rn):Prop where
 h:r.h.Ok
 tl:r.tm.length=4
 tb:∀j,0<=r.tm.getD j 0/\r.tm.getD j 0<4294967296
 h0:0<=r.here
 h1:r.here<4294967296
theorem Rn.Ok.get {r:Rn}(o:r.Ok)(k):W (r.get k):=by
 unfold Rn.get;split
 ·exact o.h.reg _
 ·exact o.tb _
theorem OG (l:List Int)(k j)(x):(l.set k x).getD j 0=if j=k/\k<l.length then x else l.getD j 0:=by
 simp only[List.getD,asg];by_cases e:k=j
 ·subst e;by_cases h:k<l.length
  ·simp[h]
  ·simp[h]
 ·have e2:¬j=k:=fun q=>e q.symm
  simp[e,e2]
theorem Rn.Ok.put {r:Rn}(o:r.Ok)(k){x}(hx:W x):(r.put k x).Ok:=by
 unfold Rn.put;split
 ·refine⟨o.h,by simp[o.tl],fun j=>?_,o.h0,o.h1⟩;show 0<=(r.tm.set _ x).getD j 0/\_
  rw[OG];split
  ·exact hx
  ·exact o.tb j
 ·exact⟨o.h.set _ hx.1 hx.2,o.tl,o.tb,o.h0,o.h1⟩
theorem Rn.Ok.stop {r:Rn}(o:r.Ok){x}(hx:W x):(r.stop x).Ok:=⟨o.h.go hx.1 hx.2,o.tl,o.tb,o.h0,o.h1⟩
theorem Rn.Ok.trap {r:Rn}(o:r.Ok)(c):(r.trap c).Ok:=⟨(o.h.trap c).go o.h0 o.h1,o.tl,o.tb,o.h0,o.h1⟩
theorem Rn.Ok.hart {r:Rn}(o:r.Ok){h}(q:h.Ok):Rn.Ok { r with h:=h }:=⟨q,o.tl,o.tb,o.h0,o.h1⟩
theorem Rn.Ok.mem {r:Rn}(o:r.Ok)(m):Rn.Ok { r with m:=m }:=⟨o.h,o.tl,o.tb,o.h0,o.h1⟩
theorem Rn.Ok.stored {r:Rn}(o:r.Ok)(bf bt p)(k):(r.stored bf bt p k).Ok:=⟨o.h,o.tl,o.tb,o.h0,o.h1⟩
end Mi
namespace Ts
open Mm Hh Mi
def xD (di last:Int) (p:Int×Int):Bool:=decide (p.1<last/\di<Wd.lo (p.1+p.2))
def b1 (r:Rn):Rn:={ r with h:=(eF r.h r.m).h,m:=(eF r.h r.m).m,out:=r.out++(eF r.h r.m).out,n:=r.n+1,ax:=r.ax++(eF r.h r.m).ax }
def yh (di last:Int) (k:Nat) (S:Sv):Bool:=decide (¬S.h.state=0) ||(decide (¬S.h.pc=Wd.lo (di+(4*k+4))) ||S.ax.any (xD di last))
def IC (di last steps:Int):Nat→Nat→Rn→Rn
 |0,_,r=>r
 |f+1,k,r=>if(r.n:Int)<steps then(if yh di last k (eF r.h r.m)=true then b1 r else IC di last steps f (k+1) (b1 r))else r
end Ts
namespace Mi
open Mm Wd Hh
variable{r:Rn}{code:List Mv}{j:Nat}{i:Mv}
theorem fE (bf bt steps:Int)(h:r.over=true):∀l,bF bf bt steps r l=r
 | []=>rfl
 |i::is=>by unfold bF;rw[awn h]
theorem gD (bf bt steps:Int):∀(l k:List Mv) (r:Rn),bF bf bt steps r (l++k)=bF bf bt steps (bF bf bt steps r l) k
 | [],k,r=>rfl
 |i::is,k,r=>by
  by_cases h:r.over=true
  ·rw[fE _ _ _ h,fE _ _ _ h,fE _ _ _ h]
  ·rw[arU,bF,awm h,gD bf bt steps is k,bF,awm h]
theorem r9 (bf bt steps)(hi:code[j]?=some i)(ho:(bF bf bt steps r (code.take j)).over=false):bF bf bt steps r (code.take (j+1))=jK bf bt steps (bF bf bt steps r (code.take j)) i:=by
 rw[arW,hi,gD];show bF bf bt steps _ [i]=_
 rw[bF,awm (by simp[ho]),bF]
theorem KC (bf bt steps)(ho:(bF bf bt steps r (code.take j)).over=true):bF bf bt steps r code=bF bf bt steps r (code.take j):=by have e:=gD bf bt steps (code.take j) (code.drop j) r;rw[asr]at e;rw[e,fE _ _ _ ho]
structure Bd (r r':Rn):Prop where
 m:r'.m.length=r.m.length
 ax:r'.ax.length<=r.ax.length+1
 out:r'.out.length<=r.out.length+1
 n:r'.n<=r.n+1
theorem Bd.refl (r):Bd r r:=⟨rfl,ab,ab,ab⟩
theorem mR {r'}(h:Bd r r')(k x):Bd r (r'.put k x):=by
 unfold Rn.put;split
 ·exact⟨h.m,h.ax,h.out,h.n⟩
 ·exact⟨h.m,h.ax,h.out,h.n⟩
theorem gu {x}(h:eP l op a=true):(jb l op a x).length=l.length:=by unfold jb;rw[awn h,jD]
theorem mr (r)(c):Bd r (r.trap c):=⟨rfl,by simp[Rn.trap],by simp[Rn.trap],by simp[Rn.trap]⟩
theorem uN (r)(c):Bd r (r.stop c):=⟨rfl,by simp[Rn.stop],by simp[Rn.stop],by simp[Rn.stop]⟩
theorem si {h}(hm:m.length=r.m.length)(bf bt p)(k):Bd r ({ r with h:=h,m:=m }.stored bf bt p k):=⟨hm,by simp[Rn.stored],by simp[Rn.stored],by simp[Rn.stored]⟩
theorem IE (r)(h):Bd r { r with h:=h }:=⟨rfl,aq,aq,aq⟩
theorem aaW (bf bt)(r)(c op)(i):Bd r (xC bf bt r c op i):=by
 unfold xC;split
 ·split
  ·exact uN r _
  ·exact Bd.refl r
 split
 ·unfold Cu;split
  ·exact mR (Bd.refl r) _ _
  ·exact mr r _
 split
 ·unfold vD;split
  ·rename_i h;exact si (h:=r.h) (gu h) _ _ _ _
  ·exact mr r _
 split
 ·exact mR (Bd.refl r) _ _
 split
 ·exact mR (Bd.refl r) _ _
 split
 ·unfold Cw;split
  ·unfold mLr;split
   ·exact mR (IE r _) _ _
   ·exact mr r _
  split
  ·unfold mSc;split
   ·rename_i h;split
    ·exact mR (si (gu (bK h)) _ _ _ _) _ _
    ·exact mR (IE r _) _ _
   ·exact mr r _
  ·unfold OE;split
   ·rename_i h;exact mR (si (h:=r.h) (gu (bK h)) _ _ _ _) _ _
   ·exact mr r _
 ·exact Bd.refl r
theorem aaX (bf bt steps)(r)(i):Bd r (jK bf bt steps r i):=by
 unfold jK;split
 ·unfold KA;split
  ·exact uN r _
  ·exact⟨rfl,aq,aq,aq⟩
 split
 ·exact mR (Bd.refl r) _ _
 split
 ·exact uN r _
 split
 ·exact uN r _
 split
 ·unfold vE;split
  ·exact⟨rfl,aq,aq,aq⟩
  split
  ·exact⟨rfl,aq,aq,aq⟩
  ·exact mr r _
 split
 ·exact mr r _
 ·exact aaW bf bt r _ _ i
theorem IG (bf bt steps:Int)(r:Rn)(code:List Mv):∀j,(bF bf bt steps r (code.take j)).m.length=r.m.length∧(bF bf bt steps r (code.take j)).ax.length≤r.ax.length+j∧(bF bf bt steps r (code.take j)).out.length≤r.out.length+j∧(bF bf bt steps r (code.take j)).n≤r.n+j
 |0=>⟨rfl,by simp[bF],by simp[bF],by simp[bF]⟩
 |j+1=>by
  obtain⟨h1,h2,h3,h4⟩:=IG bf bt steps r code j;cases hi:code[j]? with
  |none=>
   have e:code.take (j+1)=code.take j:=by rw[arW,hi];simp
   rw[e];exact⟨h1,ab,ab,ab⟩
  |some i=>
   cases ho:(bF bf bt steps r (code.take j)).over with
   |false=>
    rw[r9 bf bt steps hi ho];have b:=aaX bf bt steps (bF bf bt steps r (code.take j)) i;have b2:=b.ax;have b3:=b.out;have b4:=b.n;exact⟨b.m.trans h1,ab,ab,ab⟩
   |true=>
    have e:bF bf bt steps r (code.take (j+1))=bF bf bt steps r (code.take j):=by
     rw[arW,hi,gD,fE _ _ _ ho]
    rw[e];exact⟨h1,ab,ab,ab⟩
theorem Cx (h:eT i=true):0<=named i.op/\(0<=i.d/\i.d<36)/\(0<=i.a/\i.a<36)/\0<=i.b/\i.b<36:=by unfold eT bZ at h;simp only[arR,awD]at h;obtain⟨h1,_,⟨_,h2⟩,⟨_,h3⟩,⟨_,h4⟩⟩:=h;exact⟨h1,h2,h3,h4⟩
end Mi
namespace Mi
open Mm Wd Hh
variable{r r':Rn}{i:Mv}{h:Hv}
def meet (bf bt:Int) (p:Int×Int):Bool:=decide (max p.1 bf<min (lo (p.1+p.2)) bt)
def ownB (bf bt:Int) (ss:List (Int×Int)):Bool:=ss.any (meet bf bt)
theorem Cy (bf bt p:Int):∀k,hits bf bt p k=true↔∃j:Nat,j<k∧bf≤lo (p+j)∧lo (p+j)<bt
 |0=>⟨fun h=>(by cases h),fun⟨j,h,_⟩=>absurd h ab⟩
 |k+1=>by
  unfold hits;rw[ate,Cy bf bt p k,decide_eq_true_iff];constructor
  ·rintro(⟨j,h,q⟩|q)
   ·exact⟨j,ab,q⟩
   ·exact⟨k,ab,q⟩
  ·rintro⟨j,h,q⟩;by_cases e:j=k
   ·subst e;exact .inr q
   ·exact .inl ⟨j,ab,q⟩
theorem yj (h0:0<=p)(h1:p+k<4294967296)(hk:k<=4):hits bf bt p k=meet bf bt (p,(k:Int)):=by
 have e:∀j:Nat,j<=k->lo (p+j)=p+j:=fun j h=>asH ab ab
 rw[atN,Cy];unfold meet;rw[decide_eq_true_iff];show _↔max p bf<min (lo (p+k)) bt
 rw[e k ab];constructor
 ·rintro⟨j,hj,a,b⟩;rw[e j ab]at a b;rw[Int.max_def,Int.min_def];split<;>split<;>omega
 ·intro h;rw[Int.max_def,Int.min_def]at h;by_cases c:p<=bf
  ·refine⟨(bf-p).toNat,?_,?_⟩
   ·split at h<;>split at h<;>omega
   ·rw[e _ (by split at h<;>split at h<;>omega)];split at h<;>split at h<;>omega
  ·refine⟨0,?_,?_⟩
   ·split at h<;>split at h<;>omega
   ·rw[e _ ab];split at h<;>split at h<;>omega
def gF (r:Rn) (i:Mv):Ev:=
 if i.op=2 then⟨r.h,r.m,[],[],some i.n⟩
 else if 211<=i.op/\i.op<=215 then bJ r.h r.m (i.op-200) (lo (r.get i.a+i.n))
 else if 316<=i.op/\i.op<=318 then aI r.h r.m (i.op-300) (lo (r.get i.a+i.n)) (r.get i.b)
 else if 428<=i.op/\i.op<=445 then⟨r.h,r.m,[],[],some (fB (i.op-400) (r.get i.a) (r.get i.b))⟩
 else if 528<=i.op/\i.op<=545 then⟨r.h,r.m,[],[],some (fB (i.op-500) (r.get i.a) i.n)⟩
 else if 646<=i.op/\i.op<=656 then aN r.h r.m (i.op-600) (r.get i.a) (r.get i.b)
 else⟨r.h,r.m,[],[],none⟩
def Rn.ev (r:Rn) (e:Ev):Rn:={ r with h:=e.h,m:=e.m,out:=r.out++e.out,ax:=r.ax++e.ax }
def Rn.jG (r:Rn) (d:Int):Option Int→Rn
 |some x=>r.put d x
 |none=>r
def fP (r:Rn) (i:Mv):Rn:=
 if i.op=1 then { r with n:=r.n+1,here:=i.n }else if i.op=5 then r.ev (bE r.h r.m)else if i.op=6 then { r with h:=r.h.trap 6 }
 else(r.ev (gF r i)).jG i.d (gF r i).res
def II (r:Rn) (i:Mv):Int:=if i.op=4 then lo (r.get i.a+i.n)-lo (r.get i.a+i.n)%2 else i.n
def wX (bf bt steps:Int) (r:Rn) (i:Mv):Bool:=if i.op=1 then decide ((r.n:Int)=steps) ||ownB bf bt r.ax else if i.op=3 then true else if i.op=4 then true else holds (i.op-100) (r.get i.a) (r.get i.b)
def Ul (bf bt steps:Int) (r:Rn) (i:Mv):Rn:=if wX bf bt steps r i=true then r.stop (II r i)else if(fP r i).h.state=0 then fP r i else(fP r i).stop (fP r i).here
theorem fF (r:Rn)(k x):(r.put k x).h.state=r.h.state:=by
 unfold Rn.put;split
 ·rfl
 ·unfold Hv.set;split<;>rfl
theorem kP (r:Rn)(o):r.ev ⟨r.h,r.m,[],[],o⟩=r:=by simp[Rn.ev]
theorem vF (h:wX bf bt steps r i=true):Ul bf bt steps r i=r.stop (II r i):=awn h
theorem iJ (h:wX bf bt steps r i=false)(q:(fP r i).h.state=0):Ul bf bt steps r i=fP r i:=by unfold Ul;rw[awm (by simp[h]),awn q]
theorem jH (h:wX bf bt steps r i=false)(q:¬(fP r i).h.state=0):Ul bf bt steps r i=(fP r i).stop (fP r i).here:=by unfold Ul;rw[awm (by simp[h]),awm q]
theorem kI (h:0<=named op):op=1\/op=2\/op=3\/op=4\/op=5\/op=6\/(105<=op/\op<=110)\/(211<=op/\op<=215)\/(316<=op/\op<=318)\/(428<=op/\op<=445)\/(528<=op/\op<=545)\/(646<=op/\op<=656):=by
 unfold named at h;split at h
 ·omega
 split at h
 ·omega
 split at h
 ·omega
 split at h
 ·omega
 split at h
 ·omega
 split at h
 ·omega
 split at h
 ·omega
 split at h
 ·omega
 split at h
 ·omega
 split at h
 ·omega
 omega
theorem Cz (h:op<5\/10<op):holds op a b=false:=by unfold holds;rw[ak,ak,ak,ak,ak,ak]
theorem mU (h:i.op≠1/\i.op≠3/\i.op≠4/\(i.op<105\/110<i.op)):wX bf bt steps r i=false:=by unfold wX;rw[awm h.1,awm h.2.1,awm h.2.2.1,Cz ab]
theorem pQ (h:i.op≠1/\i.op≠5/\i.op≠6):fP r i=(r.ev (gF r i)).jG i.d (gF r i).res:=by unfold fP;rw[awm h.1,awm h.2.1,awm h.2.2]
theorem iK {c k}(h:100<=c)(hk:0<=k/\k<100)(h2:i.op=c+k)(h3:c%100=0):jK bf bt steps r i=xC bf bt r c k i:=by unfold jK;rw[ak,ak,ak,ak,ak,ak,show i.op-i.op%100=c by omega,show i.op%100=k by omega]
theorem gy (h:r=r'):{ r with own:=r'.own }=r':=by subst h;rfl
theorem OH (d x){o:Bool}(h:{ r with own:=r'.own }=r'):{ r.put d x with own:=(r'.put d x).own }=r'.put d x:=by have e:=h.symm;rw[e];unfold Rn.put;split<;>rfl
theorem IJ (hi:0<=named i.op)(hs:r.h.state=0)(hw:r.own=ownB bf bt r.ax):{ Ul bf bt steps r i with own:=(jK bf bt steps r i).own }=jK bf bt steps r i:=by
 rcases kI hi with h|h|h|h|h|h|h|h|h|h|h|h
 ·have e:jK bf bt steps r i=KA steps r i.n:=by unfold jK;rw[awn h]
  have e1:wX bf bt steps r i=(decide ((r.n:Int)=steps) ||r.own):=by unfold wX;rw[awn h,hw]
  have e2:II r i=i.n:=by unfold II;rw[ak]
  have e3:fP r i={ r with n:=r.n+1,here:=i.n }:=by unfold fP;rw[awn h]
  rw[e];refine gy ?_;unfold KA;split
  ·rename_i q;rw[vF (by rw[e1];simpa using q),e2]
  ·rename_i q;have q1:wX bf bt steps r i=false:=by
    rw[e1];simp only[not_or,Bool.not_eq_true]at q;simp[q.1,q.2]
   rw[iJ q1 (by rw[e3];exact hs),e3]
 ·have e:jK bf bt steps r i=r.put i.d i.n:=by unfold jK;rw[ak,awn h]
  have e0:gF r i=⟨r.h,r.m,[],[],some i.n⟩:=by unfold gF;rw[awn h]
  have e3:fP r i=r.put i.d i.n:=by rw[pQ ab,e0,kP];rfl
  rw[e];refine gy ?_;rw[iJ (mU ab) (by rw[e3,fF];exact hs),e3]
 ·have e:jK bf bt steps r i=r.stop i.n:=by unfold jK;rw[ak,ak,awn h]
  rw[e];refine gy ?_;rw[vF (by unfold wX;rw[ak,awn h])];unfold II;rw[ak]
 ·have e:jK bf bt steps r i=r.stop (lo (r.get i.a+i.n)-lo (r.get i.a+i.n)%2):=by unfold jK;rw[ak,ak,ak,awn h]
  rw[e];refine gy ?_;rw[vF (by unfold wX;rw[ak,ak,awn h])];unfold II;rw[awn h]
 ·have e:jK bf bt steps r i=vE r:=by unfold jK;rw[ak,ak,ak,ak,awn h]
  have e3:fP r i=r.ev (bE r.h r.m):=by unfold fP;rw[ak,awn h]
  have e1:wX bf bt steps r i=false:=mU ab;rw[e];refine gy ?_;unfold vE;unfold bE at e3;split
  ·rename_i q;rw[awn q]at e3;rw[jH e1 (by rw[e3];simp[Rn.ev,Hv.halt]),e3];simp[Rn.ev,Rn.stop]
  split
  ·rename_i q0 q;rw[awm q0,awn q]at e3;rw[iJ e1 (by rw[e3];exact hs),e3];simp[Rn.ev]
  ·rename_i q0 q;rw[awm q0,awm q]at e3;rw[jH e1 (by rw[e3];simp[Rn.ev,Hv.trap]),e3];simp[Rn.ev,Rn.stop,Rn.trap]
 ·have e:jK bf bt steps r i=r.trap 6:=by unfold jK;rw[ak,ak,ak,ak,ak,awn h]
  have e3:fP r i={ r with h:=r.h.trap 6 }:=by unfold fP;rw[ak,ak,awn h]
  rw[e];refine gy ?_;rw[jH (mU ab) (by rw[e3];simp[Hv.trap]),e3];rfl
 ·rw[iK (c:=100) (k:=i.op-100) ab ab ab ab];have e1:wX bf bt steps r i=holds (i.op-100) (r.get i.a) (r.get i.b):=by unfold wX;rw[ak,ak,ak]
  have e2:II r i=i.n:=by unfold II;rw[ak]
  have e0:gF r i=⟨r.h,r.m,[],[],none⟩:=by unfold gF;rw[ak,ak,ak,ak,ak,ak]
  have e3:fP r i=r:=by rw[pQ ab,e0,kP];rfl
  refine gy ?_;unfold xC;rw[awn rfl];split
  ·rename_i q;rw[vF (by rw[e1];exact q),e2]
  ·rename_i q;rw[iJ (by rw[e1];simpa using q) (by rw[e3];exact hs),e3]
 ·rw[iK (c:=200) (k:=i.op-200) ab ab ab ab];have e1:wX bf bt steps r i=false:=mU ab;have e0:gF r i=bJ r.h r.m (i.op-200) (lo (r.get i.a+i.n)):=by unfold gF;rw[ak,awn h]
  have e3:fP r i=(r.ev (gF r i)).jG i.d (gF r i).res:=pQ ab;refine gy ?_;unfold xC;rw[ak,awn rfl];unfold Cu;unfold bJ at e0;split
  ·rename_i q;rw[awn q]at e0;rw[e0,kP]at e3;rw[iJ e1 (by rw[e3];exact(fF _ _ _).trans hs),e3];rfl
  ·rename_i q;rw[awm q]at e0;rw[e0]at e3;rw[jH e1 (by rw[e3];simp[Rn.ev,Rn.jG,Hv.trap]),e3];simp[Rn.ev,Rn.stop,Rn.trap,Rn.jG]
 ·rw[iK (c:=300) (k:=i.op-300) ab ab ab ab];have e1:wX bf bt steps r i=false:=mU ab;have e0:gF r i=aI r.h r.m (i.op-300) (lo (r.get i.a+i.n)) (r.get i.b):=by unfold gF;rw[ak,ak,awn h]
  have e3:fP r i=(r.ev (gF r i)).jG i.d (gF r i).res:=pQ ab;unfold xC;rw[ak,ak,awn rfl];unfold vD;unfold aI at e0;split
  ·rename_i q;rw[awn q]at e0;rw[e0]at e3;rw[iJ e1 (by rw[e3];exact hs),e3];simp[Rn.ev,Rn.jG,Rn.stored]
  ·rename_i q;refine gy ?_;rw[awm q]at e0;rw[e0]at e3;rw[jH e1 (by rw[e3];simp[Rn.ev,Rn.jG,Hv.trap]),e3];simp[Rn.ev,Rn.stop,Rn.trap,Rn.jG]
 ·rw[iK (c:=400) (k:=i.op-400) ab ab ab ab];have e0:gF r i=⟨r.h,r.m,[],[],some (fB (i.op-400) (r.get i.a) (r.get i.b))⟩:=by unfold gF;rw[ak,ak,ak,awn h]
  have e3:fP r i=r.put i.d (fB (i.op-400) (r.get i.a) (r.get i.b)):=by rw[pQ ab,e0,kP];rfl
  refine gy ?_;unfold xC;rw[ak,ak,ak,awn rfl];rw[iJ (mU ab) (by rw[e3,fF];exact hs),e3]
 ·rw[iK (c:=500) (k:=i.op-500) ab ab ab ab];have e0:gF r i=⟨r.h,r.m,[],[],some (fB (i.op-500) (r.get i.a) i.n)⟩:=by unfold gF;rw[ak,ak,ak,ak,awn h]
  have e3:fP r i=r.put i.d (fB (i.op-500) (r.get i.a) i.n):=by rw[pQ ab,e0,kP];rfl
  refine gy ?_;unfold xC;rw[ak,ak,ak,ak,awn rfl];rw[iJ (mU ab) (by rw[e3,fF];exact hs),e3]
 ·rw[iK (c:=600) (k:=i.op-600) ab ab ab ab];have e1:wX bf bt steps r i=false:=mU ab;have e0:gF r i=aN r.h r.m (i.op-600) (r.get i.a) (r.get i.b):=by unfold gF;rw[ak,ak,ak,ak,ak,awn h]
  have e3:fP r i=(r.ev (gF r i)).jG i.d (gF r i).res:=pQ ab;unfold xC;rw[ak,ak,ak,ak,ak,awn rfl];unfold Cw;unfold aN at e0;by_cases q6:i.op-600=46
  ·rw[awn q6]at e0 ⊢;refine gy ?_;unfold mLr;unfold ik at e0;split
   ·rename_i q;rw[awn q]at e0;rw[e0]at e3;have e4:fP r i={ r with h:=r.h.hold true (r.get i.a) }.put i.d (aT r.m 13 (r.get i.a)):=by rw[e3];simp[Rn.ev,Rn.jG]
    rw[iJ e1 (by rw[e4,fF];exact hs),e4]
   ·rename_i q;rw[awm q]at e0;rw[e0]at e3;rw[jH e1 (by rw[e3];simp[Rn.ev,Rn.jG,Hv.trap]),e3];simp[Rn.ev,Rn.stop,Rn.trap,Rn.jG]
  rw[awm q6]at e0 ⊢;by_cases q7:i.op-600=47
  ·rw[awn q7]at e0 ⊢;unfold mSc;unfold fC at e0;by_cases q:bR r.m 13 (r.get i.a)=true
   ·rw[awn q]at e0 ⊢;by_cases q2:r.h.held=true/\r.h.aW=r.get i.a
    ·rw[awn q2]at e0 ⊢;rw[e0]at e3;have e4:fP r i=({ r with h:=r.h.hold false 0,m:=jb r.m 18 (r.get i.a) (r.get i.b),ax:=r.ax++[(r.get i.a,4)] }:Rn).put i.d 0:=by rw[e3];simp[Rn.ev,Rn.jG]
     rw[iJ e1 (by rw[e4,fF];exact hs),e4];refine OH (o:=true) _ _ ?_;rfl
    ·rw[awm q2]at e0 ⊢;rw[e0]at e3;have e4:fP r i={ r with h:=r.h.hold false 0 }.put i.d 1:=by rw[e3];simp[Rn.ev,Rn.jG]
     refine gy ?_;rw[iJ e1 (by rw[e4,fF];exact hs),e4]
   ·rw[awm q]at e0 ⊢;rw[e0]at e3;refine gy ?_;rw[jH e1 (by rw[e3];simp[Rn.ev,Rn.jG,Hv.trap]),e3];simp[Rn.ev,Rn.stop,Rn.trap,Rn.jG]
  rw[awm q7]at e0 ⊢;unfold OE;unfold jv at e0;by_cases q:bR r.m 13 (r.get i.a)=true
  ·rw[awn q]at e0 ⊢;rw[e0]at e3;have e4:fP r i=({ r with m:=jb r.m 18 (r.get i.a) (nX (i.op-600) (aT r.m 13 (r.get i.a)) (r.get i.b)),ax:=r.ax++[(r.get i.a,4)] }:Rn).put i.d (aT r.m 13 (r.get i.a)):=by rw[e3];simp[Rn.ev,Rn.jG]
   rw[iJ e1 (by rw[e4,fF];exact hs),e4];refine OH (o:=true) _ _ ?_;rfl
  ·rw[awm q]at e0 ⊢;rw[e0]at e3;refine gy ?_;rw[jH e1 (by rw[e3];simp[Rn.ev,Rn.jG,Hv.trap]),e3];simp[Rn.ev,Rn.stop,Rn.trap,Rn.jG]
structure Gd (bf bt:Int) (r:Rn):Prop where
 ok:r.Ok
 st:r.over=false->r.h.state=0
 own:r.own=ownB bf bt r.ax
 len:r.m.length<=4096
theorem Gd.put (g:Gd bf bt r)(k)(hx:W x):Gd bf bt (r.put k x):=by
 refine⟨g.ok.put k hx,?_,?_,?_⟩
 ·rw[fF];have:(r.put k x).over=r.over:=by unfold Rn.put;split<;>rfl
  rw[this];exact g.st
 ·have:(r.put k x).own=r.own/\(r.put k x).ax=r.ax:=by unfold Rn.put;split<;>exact⟨rfl,rfl⟩
  rw[this.1,this.2];exact g.own
 ·have:(r.put k x).m=r.m:=by unfold Rn.put;split<;>rfl
  rw[this];exact g.len
theorem Gd.stop (g:Gd bf bt r)(hx:W x):Gd bf bt (r.stop x):=⟨g.ok.stop hx,fun h=>(by cases h),g.own,g.len⟩
theorem Gd.trap (g:Gd bf bt r)(c):Gd bf bt (r.trap c):=⟨g.ok.trap c,fun h=>(by cases h),g.own,g.len⟩
theorem Gd.hart (g:Gd bf bt r)(o:h.Ok)(e:h.state=r.h.state):Gd bf bt { r with h:=h }:=⟨g.ok.hart o,fun q=>e.trans (g.st q),g.own,g.len⟩
theorem Gd.stored (g:Gd bf bt r)(m)(hm:m.length=r.m.length)(h0:0<=p)(h1:p+k<=r.m.length)(hk:k<=4):Gd bf bt ({ r with m:=m }.stored bf bt p k):=by
 have hl:=g.len;refine⟨(g.ok.mem m).stored _ _ _ _,g.st,?_,by show m.length<=4096;omega⟩;show(r.own ||hits bf bt p k)=ownB bf bt (r.ax++[(p,(k:Int))])
 rw[yj h0 ab hk,g.own];unfold ownB;rw[atq];simp
theorem Ff (h:rR l.length n a=true):a+n<=l.length:=by unfold rR at h;simp only[awD]at h;exact h.2.2
theorem Gd.xC (g:Gd bf bt r)(c op:Int)(hn:W i.n):Gd bf bt (xC bf bt r c op i):=by
 have wa:=g.ok.get i.a;have wb:=g.ok.get i.b;have wl:=W.lo (r.get i.a+i.n);unfold Mi.xC;split
 ·split
  ·exact g.stop hn
  ·exact g
 split
 ·unfold Cu;split
  ·exact g.put _ (W.aT _ _ _)
  ·exact g.trap _
 split
 ·unfold vD;split
  ·rename_i h;exact g.stored _ (gu h) wl.1 (Ff h) (rT _)
  ·exact g.trap _
 split
 ·exact g.put _ (W.fB wa wb)
 split
 ·exact g.put _ (W.fB wa hn)
 split
 ·unfold Cw;split
  ·unfold mLr;split
   ·exact(g.hart (g.ok.h.hold true wa.1 wa.2) rfl).put _ (W.aT _ _ _)
   ·exact g.trap _
  split
  ·unfold mSc;split
   ·rename_i h;split
    ·exact((g.hart (g.ok.h.hold false (x:=0) ab ab) rfl).stored _ (gu (bK h)) wa.1 (Ff (bK h)) (rT 18)).put _ .zero
    ·exact(g.hart (g.ok.h.hold false (x:=0) ab ab) rfl).put _ ⟨ab,ab⟩
   ·exact g.trap _
  ·unfold OE;split
   ·rename_i h;exact(g.stored _ (gu (bK h)) wa.1 (Ff (bK h)) (rT 18)).put _ (W.aT _ _ _)
   ·exact g.trap _
 ·exact g
theorem Gd.jK (g:Gd bf bt r)(hn:W i.n)(ho:r.over=false):Gd bf bt (jK bf bt steps r i):=by
 have wl:=W.lo (r.get i.a+i.n);unfold Mi.jK;split
 ·unfold KA;split
  ·exact g.stop hn
  ·exact⟨⟨g.ok.h,g.ok.tl,g.ok.tb,hn.1,hn.2⟩,g.st,g.own,g.len⟩
 split
 ·exact g.put _ hn
 split
 ·exact g.stop hn
 split
 ·exact g.stop ⟨by have:=wl.1;have:=wl.2;omega,by have:=wl.1;have:=wl.2;omega⟩
 split
 ·unfold vE;split
  ·exact⟨g.ok.hart (g.ok.h.halt.go g.ok.h0 g.ok.h1) |> fun o=>⟨o.h,o.tl,o.tb,o.h0,o.h1⟩,fun h=>(by cases h),g.own,g.len⟩
  split
  ·exact⟨⟨g.ok.h,g.ok.tl,g.ok.tb,g.ok.h0,g.ok.h1⟩,g.st,g.own,g.len⟩
  ·exact g.trap _
 split
 ·exact g.trap _
 ·exact g.xC _ _ hn
theorem Gd.start (o:h.Ok)(hs:h.state=0)(hl:l.length<=4096):Gd bf bt (mstart h l):=⟨⟨o,rfl,fun j=>by match j with|0|1|2|3=>exact W.zero|j+4=>exact W.zero,o.oW,o.gP⟩,fun _=>hs,rfl,hl⟩
theorem Gd.bF {bf bt steps:Int}{r:Rn}(g:Gd bf bt r){code:List Mv}(hn:∀i∈code,W i.n):∀j,Gd bf bt (bF bf bt steps r (code.take j))
 |0=>g
 |j+1=>by
  have q:=Gd.bF (steps:=steps) g hn j;cases hi:code[j]? with
  |none=>
   have e:code.take (j+1)=code.take j:=by rw[arW,hi];simp
   rw[e];exact q
  |some i=>
   cases ho:(Mi.bF bf bt steps r (code.take j)).over with
   |false=>
    rw[r9 bf bt steps hi ho];exact q.jK (hn i (arE hi)) ho
   |true=>
    have e:Mi.bF bf bt steps r (code.take (j+1))=Mi.bF bf bt steps r (code.take j):=by
     rw[arW,hi,gD,fE _ _ _ ho]
    rw[e];exact q
theorem Vn (o:r.Ok)(hn:W i.n)(h:(gF r i).res=some x):W x:=by
 have wa:=o.get i.a;have wb:=o.get i.b;unfold gF at h;split at h
 ·injection h with h;rw[<-h];exact hn
 split at h
 ·unfold bJ at h;split at h
  ·injection h with h;rw[<-h];exact W.aT _ _ _
  ·cases h
 split at h
 ·unfold aI at h;split at h<;>cases h
 split at h
 ·injection h with h;rw[<-h];exact W.fB wa wb
 split at h
 ·injection h with h;rw[<-h];exact W.fB wa hn
 split at h
 ·unfold aN at h;split at h
  ·unfold ik at h;split at h
   ·injection h with h;rw[<-h];exact W.aT _ _ _
   ·cases h
  split at h
  ·unfold fC at h;split at h
   ·split at h
    ·injection h with h;rw[<-h];exact .zero
    ·injection h with h;rw[<-h];exact .one
   ·cases h
  ·unfold jv at h;split at h
   ·injection h with h;rw[<-h];exact W.aT _ _ _
   ·cases h
 ·cases h
end Mi
namespace Bk
open Mm Hh
variable{l:List UInt8}{pc:Int}{n k:Nat}
def kJ (l:List UInt8) (pc:Int):Int:=if bR l 13 pc=true then(if Dc.aO (aT l 13 pc)=0 then 2 else 0)else 1
def eU (op:Int):Bool:=decide ((3<=op/\op<=10)\/op=58\/op=59)
def at4 (pc:Int) (k:Nat):Int:=Wd.lo (pc+4*k)
def blk (l:List UInt8) (pc:Int):Nat→Nat→List Int
 |0,_=>[]
 |n+1,k=>if kJ l (at4 pc k)=0 then aT l 13 (at4 pc k)::(if eU (Dc.aO (aT l 13 (at4 pc k)))=true then[]else blk l pc n (k+1))else[]
theorem zG (pc)(k):0<=at4 pc k/\at4 pc k<4294967296:=by unfold at4 Wd.lo;omega
theorem qG (h:¬kJ l (at4 pc k)=0):blk l pc (n+1) k=[]:=by unfold blk;rw[awm h]
theorem qH (h:kJ l (at4 pc k)=0)(hl:eU (Dc.aO (aT l 13 (at4 pc k)))=true):blk l pc (n+1) k=[aT l 13 (at4 pc k)]:=by unfold blk;rw[awn h,awn hl]
theorem zI (h:kJ l (at4 pc k)=0)(hl:eU (Dc.aO (aT l 13 (at4 pc k)))=false):blk l pc (n+1) k=aT l 13 (at4 pc k)::blk l pc n (k+1):=by rw[blk,awn h,awm (by simp[hl])]
theorem OI (l)(pc)(k):blk l pc (16-16) k=[]:=rfl
theorem aaY (h:bR l 13 pc=false):aT l 13 pc=0:=by unfold aT;rw[h];rfl
theorem aiD:Dc.aO 0=0:=an
end Bk
namespace Hh
open Mm Wd
variable{h h':Hv}{c:Int}
structure Rn (h:Hv):Prop where
 z:rg h 0=0
 hd:h.held=false->h.aW=0
 st:h.state=0
 cs:h.cause=0
theorem CE (m:may h=true)(s:h.state=0):Rn h:=by simp only[may,awD]at m;obtain⟨a,b,c⟩:=m;exact⟨a,b,s,ab⟩
def Good (h:Hv) (l:List UInt8) (s:Sv):Prop:=may s.h=true/\s.m.length=l.length/\rg s.h 0=0/\s.out.length<=1/\(s.h.state≠0->{ s.h with state:=h.state,cause:=h.cause }=h/\s.m=l/\s.out=[])
theorem Vy (z:rg h 0=0)(hd:h.held=false->h.aW=0)(s:h.state=0)(c:h.cause=0):may h=true:=by simp only[may,awD];exact⟨z,hd,.inl ⟨.inl s,c⟩⟩
theorem CG (z:rg h' 0=0)(hd:h'.held=false->h'.aW=0)(s:h'.state=0)(c:h'.cause=0)(hm:m.length=l.length)(ho:out.length<=1):Good h l ⟨h',m,out,ax⟩:=⟨Vy z hd s c,hm,z,ho,fun h=>absurd s h⟩
theorem sj (r:Rn h)(l)(c0:1<=c)(c1:c<=6):Good h l ⟨h.trap c,l,[],[]⟩:=by
 refine⟨?_,rfl,r.z,aq,fun _=>⟨?_,rfl,rfl⟩⟩
 ·simp only[may,awD];exact⟨r.z,r.hd,.inr ⟨rfl,c0,c1⟩⟩
 ·cases h;rfl
theorem KE (r:Rn h)(l):Good h l ⟨h.halt,l,[],[]⟩:=by
 refine⟨?_,rfl,r.z,aq,fun _=>⟨?_,rfl,rfl⟩⟩
 ·simp only[may,awD];exact⟨r.z,r.hd,.inl ⟨.inr rfl,r.cs⟩⟩
 ·cases h;rfl
theorem VA (z:rg h 0=0)(r)(x):rg (h.set r x) 0=0:=by
 unfold Hv.set;split
 ·exact z
 ·rw[Oj,ak];exact z
theorem OJ (h:Hv)(r)(x):(h.set r x).held=h.held/\(h.set r x).aW=h.aW/\(h.set r x).state=h.state/\(h.set r x).cause=h.cause:=by unfold Hv.set;split<;>exact⟨rfl,rfl,rfl,rfl⟩
theorem dz (r:Rn h')(res)(rd)(nx)(hm:m.length=l.length)(ho:out.length<=1):Good h l (done ⟨h',m,out,ax,res⟩ rd nx):=by
 unfold done Hv.put;cases res with
 |none=>
  simp only;unfold Hv.on;rw[awn r.st];exact CG r.z r.hd r.st r.cs hm ho
 |some x=>
  obtain⟨f1,f2,f3,f4⟩:=OJ h' rd x;simp only;unfold Hv.on;rw[awn (f3.trans r.st)];exact CG (h':=(h'.set rd x).go nx) (VA r.z rd x) (by show(h'.set rd x).held=false->(h'.set rd x).aW=0;rw[f1,f2];exact r.hd) (f3.trans r.st) (f4.trans r.cs) hm ho
theorem iL (r:Rn h)(l)(c0:1<=c)(c1:c<=6)(rd)(nx):Good h l (done ⟨h.trap c,l,[],[],none⟩ rd nx):=by unfold done Hv.put Hv.on;simp only;rw[awm (by show¬(2:Int)=0;omega)];exact sj r l c0 c1
theorem VB (r:Rn h)(a):Rn (h.hold true a):=⟨r.z,fun e=>(by cases e),r.st,r.cs⟩
theorem CJ (r:Rn h):Rn (h.hold false 0):=⟨r.z,fun _=>rfl,r.st,r.cs⟩
theorem OM (r:Rn h)(l)(op rd r1 r2 im):Good h l (ins h l op rd r1 r2 im):=by
 unfold ins gN;split
 ·exact dz r _ _ _ rfl aq
 split
 ·exact dz r _ _ _ rfl aq
 split
 ·exact dz r _ _ _ rfl aq
 split
 ·unfold bJ;split
  ·exact dz r _ _ _ rfl aq
  ·exact iL r l ab ab _ _
 split
 ·unfold aI;split
  ·exact dz r _ _ _ (lC bo) aq
  ·exact iL r l ab ab _ _
 split
 ·exact dz r _ _ _ rfl aq
 split
 ·exact dz r _ _ _ rfl aq
 split
 ·unfold aN;split
  ·unfold ik;split
   ·exact dz (VB r _) _ _ _ rfl aq
   ·exact iL r l ab ab _ _
  ·split
   ·unfold fC;split
    ·split
     ·exact dz (CJ r) _ _ _ (lC (bK bo)) aq
     ·exact dz (CJ r) _ _ _ rfl aq
    ·exact iL r l ab ab _ _
   ·unfold jv;split
    ·exact dz r _ _ _ (lC (bK bo)) aq
    ·exact iL r l ab ab _ _
 split
 ·unfold bE;split
  ·unfold done Hv.put Hv.on;simp only;rw[awm (by show¬(1:Int)=0;omega)];exact KE r l
  ·split
   ·exact dz r _ _ _ rfl aq
   ·exact iL r l ab ab _ _
 split
 ·exact iL r l ab ab _ _
 ·exact dz r _ _ _ rfl aq
theorem mV (r:Rn h)(l):Good h l (eF h l):=by
 unfold eF qz;split
 ·split
  ·exact sj r l ab ab
  ·exact OM r l _ _ _ _ _
 ·exact sj r l ab ab
theorem VC {e}(o:e.Ok l)(rd)(w:W nx):(done e rd nx).h.Ok:=aeV (aaV o.h rd o.res) w
theorem OO (o:h.Ok)(l):(eF h l).h.Ok:=by
 unfold eF qz ins;split
 ·split
  ·exact o.trap 2
  ·exact VC (Fb o l (W.reg o _) (W.reg o _) (W.lo _)) _ .rX
 ·exact o.trap 1
end Hh
namespace Ts
open Mm Wd Mi Bk
open Hh hiding Rn
variable{di last:Int}{h:Hv}{S:Sv}{cnt:Nat}{xs:Nat->Int}{bd:Nat->List Mv}{tail:List Mv}
theorem yl {l':List UInt8}{a:Nat}:∀n,(∀i,a≤i→i<a+n→bv l i=bv l' i)→raw l a n=raw l' a n
 |0,_=>rfl
 |n+1,h=>by
  unfold raw;rw[yl n fun i h1 h2=>h i h1 ab,h (a+n) ab ab]
theorem VD (h:eP l op p=true)(hp:0<=p)(ha:0<=a)(d:p+(iD op:Int)<=a\/a+4<=p):aT (jb l op p x) 13 a=aT l 13 a:=by
 have hl:=Mi.gu (x:=x) h;unfold aT;have e:bR (jb l op p x) 13 a=bR l 13 a:=by unfold bR;rw[hl]
 rw[e];split
 ·rename_i q;congr 1;have hq:a+4<=l.length:=by
   unfold bR rR at q;simp only[awD]at q;exact q.2.2
  show raw _ _ 4=raw _ _ 4
  refine yl 4 fun i h1 h2=>?_
  unfold jb;rw[awn h,NN _ _ _ _ _ ab,ak]
 ·rfl
def aaZ (l:List UInt8) (S:Sv):Prop:=(S.m=l/\S.ax=[])\/∃op p x,0<=p/\eP l op p=true/\S.m=jb l op p x/\S.ax=[(p,((iD op:Nat):Int))]
def EvM (l:List UInt8) (e:Ev):Prop:=(e.m=l/\e.ax=[])\/∃op p x,0<=p/\eP l op p=true/\e.m=jb l op p x/\e.ax=[(p,((iD op:Nat):Int))]
theorem IK:EvM l ⟨h,l,o,[],r⟩:=.inl ⟨rfl,rfl⟩
theorem aa0 (o:h.Ok)(l){n}(ha:W a):EvM l (gN h l op a b n):=by
 unfold gN;split
 ·exact IK
 split
 ·exact IK
 split
 ·exact IK
 split
 ·unfold bJ;split<;>exact IK
 split
 ·unfold aI;split
  ·rename_i q;exact .inr ⟨_,_,_,(W.lo _).1,q,rfl,rfl⟩
  ·exact IK
 split
 ·exact IK
 split
 ·exact IK
 split
 ·unfold aN;split
  ·unfold ik;split<;>exact IK
  split
  ·unfold fC;split
   ·rename_i q;split
    ·exact .inr ⟨18,a,b,ha.1,bK q,rfl,rfl⟩
    ·exact IK
   ·exact IK
  ·unfold jv;split
   ·rename_i q;exact .inr ⟨18,a,_,ha.1,bK q,rfl,rfl⟩
   ·exact IK
 split
 ·unfold bE;split
  ·exact IK
  split<;>exact IK
 split<;>exact IK
theorem IL (o:h.Ok)(l):aaZ l (eF h l):=by
 unfold eF qz;split
 ·split
  ·exact .inl ⟨rfl,rfl⟩
  ·exact aa0 (op:=Dc.aO (aT l 13 h.pc)) o l (W.reg o _)
 ·exact .inl ⟨rfl,rfl⟩
structure Um (r s:Mi.Rn):Prop where
 h:r.h=s.h
 m:r.m=s.m
 out:r.out=s.out
 n:r.n=s.n
 ax:r.ax=s.ax
structure Fit (bf bt a:Int) (q:Mi.Rn) (S:Sv) (q':Mi.Rn):Prop where
 ok:q'.Ok
 m:q'.m=S.m
 out:q'.out=q.out++S.out
 ax:q'.ax=q.ax++S.ax
 n:q'.n=q.n
 own:q'.own=(q.own ||S.ax.any (meet bf bt))
 here:q'.over=false->q'.here=a
 go:(q'.over=true/\q'.h=S.h)\/(q'.over=false/\S.h.state=0/\S.h.pc=lo (a+4)/\q'.h=S.h.go q.h.pc)
def Fg (bf bt steps a x:Int) (body:List Mv):Prop:=∀q:Mi.Rn,q.over=false->q.Ok->q.h.state=0->rg q.h 0=0->q.here=a->q.m.length<=4096->
 Fit bf bt a q (qz (q.h.go a) q.m x) (bF bf bt steps q body)/\((bF bf bt steps q body).over=true->eU (Dc.aO x)=true\/¬(qz (q.h.go a) q.m x).h.state=0)
def Fh (bf bt steps a:Int) (tail:List Mv):Prop:=∀q:Mi.Rn,q.over=false->0<q.n->lo (q.here+4)=a->Um (mend (bF bf bt steps q tail)) { q with h:=q.h.go a }
def qI (di:Int) (bd:Nat→List Mv):Nat→Nat→List Mv
 |0,_=>[]
 |n+1,k=>⟨1,0,0,0,at4 di k⟩::(bd k++qI di bd n (k+1))
theorem su {r}(h:r.over=true):mend r=r:=by unfold mend;rw[awm (by simp[h])]
theorem OP (bf bt steps)(q)(a):jK bf bt steps q ⟨1,0,0,0,a⟩=KA steps q a:=by unfold jK;rw[awn rfl]
theorem CK (h:Hv)(x y):(h.go x).go y=h.go y:=rfl
theorem Ze (h:Hv):h.go h.pc=h:=rfl
theorem OQ (hS:aaZ l S)(hb:di<last)(hl:l.length<=4096):S.ax.any (xD di last)=S.ax.any (meet di last):=by
 rcases hS with⟨_,e⟩|⟨op,p,x,hp,ho,_,e⟩
 ·rw[e];rfl
 ·rw[e];simp only[List.any_cons,List.any_nil,Bool.or_false];have hz:0<iD op/\p+(iD op:Int)<=l.length:=by
   unfold eP rR at ho;simp only[awD]at ho;exact⟨ho.1,ho.2.2⟩
  have hlo:lo (p+((iD op:Nat):Int))=p+(iD op:Int):=asH ab ab;unfold xD meet;simp only[hlo];rw[decide_eq_decide,Int.max_def,Int.min_def];constructor
  ·intro h;(repeat' split)<;>omega
  ·intro h;(repeat' split at h)<;>omega
theorem vG (hS:aaZ l S)(hl:l.length<=4096)(hno:S.ax.any (xD di last)=false)(h0:0<=a)(h1:di<=a)(h2:a+4<=last):aT S.m 13 a=aT l 13 a:=by
 rcases hS with⟨e,_⟩|⟨op,p,x,hp,ho,e,es⟩
 ·rw[e]
 ·rw[e];refine VD ho hp h0 ?_;rw[es]at hno;simp only[List.any_cons,List.any_nil,Bool.or_false]at hno;have hz:0<iD op/\p+(iD op:Int)<=l.length:=by
   unfold eP rR at ho;simp only[awD]at ho;exact⟨ho.1,ho.2.2⟩
  have hlo:lo (p+((iD op:Nat):Int))=p+(iD op:Int):=asH ab ab;unfold xD at hno;simp only[hlo,decide_eq_false_iff_not]at hno;omega
structure VE (l:List UInt8) (di last:Int) (cnt:Nat) (xs:Nat→Int):Prop where
 pos:0<cnt
 low:0<=di
 top:di+4*cnt=last
 len:l.length<=4096
 fit:last<=l.length
 at_:∀j,j<=cnt->at4 di j=di+4*j
 ok:∀j,j<cnt->bR l 13 (at4 di j)=true
 op:∀j,j<cnt->¬Dc.aO (xs j)=0
 fin:∀j,j<cnt->eU (Dc.aO (xs j))=true->j+1=cnt
structure Rel (di steps:Int) (k:Nat) (q r:Mi.Rn):Prop where
 over:q.over=false
 ok:q.Ok
 may:may r.h=true
 st:r.h.state=0
 h:r.h=q.h.go (at4 di k)
 m:r.m=q.m
 out:r.out=q.out
 n:r.n=q.n
 ax:r.ax=q.ax
 own:q.own=false
 le:(q.n:Int)<=steps
 beg:k=0\/(0<q.n/\lo (q.here+4)=at4 di k)
theorem CL (B:VE l di last cnt xs)(hb:∀j,j<cnt->Fg di last steps (at4 di j) (xs j) (bd j))(ht:Fh di last steps (at4 di cnt) tail):
  ∀(n k:Nat) (q r:Mi.Rn),k+n=cnt->Rel di steps k q r->(∀j,k<=j->j<cnt->aT r.m 13 (at4 di j)=xs j)->r.m.length=l.length->Um (mend (bF di last steps q (qI di bd n k++tail))) (IC di last steps n k r)
 |0,k,q,r,hk,R,_,_=>by
  have hkc:k=cnt:=ab;have hp:=B.pos;rcases R.beg with h0|⟨h1,h2⟩
  ·omega
  ·have e:=ht q R.over h1 (by rw[h2,hkc]);show Um (mend (bF di last steps q tail)) r
   refine⟨?_,?_,?_,?_,?_⟩
   ·rw[e.h,R.h,hkc]
   ·rw[e.m,R.m]
   ·rw[e.out,R.out]
   ·rw[e.n,R.n]
   ·rw[e.ax,R.ax]
 |n+1,k,q,r,hk,R,hw,hlen=>by
  have hkc:k<cnt:=ab;have ha:=B.at_ k ab;have ha1:=B.at_ (k+1) ab;have hlow:=B.low;have htop:=B.top;have hfit:=B.fit;have hll:=B.len;have e0:bF di last steps q (qI di bd (n+1) k++tail)=bF di last steps (KA steps q (at4 di k)) (bd k++(qI di bd n (k+1)++tail)):=by
   show bF di last steps q (⟨1,0,0,0,at4 di k⟩::((bd k++qI di bd n (k+1))++tail))=_
   rw[bF,awm (by simp[R.over]),OP,asq]
  rw[e0];by_cases hn:(q.n:Int)=steps
  ·have e1:KA steps q (at4 di k)=q.stop (at4 di k):=by unfold KA;rw[awn (.inl hn)]
   have e2:IC di last steps (n+1) k r=r:=by unfold IC;rw[awm (by rw[R.n];omega)]
   rw[e1,fE _ _ _ rfl,su rfl,e2];exact⟨R.h.symm,R.m.symm,R.out.symm,R.n.symm,R.ax.symm⟩
  ·have e1:KA steps q (at4 di k)={ q with n:=q.n+1,here:=at4 di k }:=by unfold KA;rw[awm (by simp[hn,R.own])]
   rw[e1,gD];have hbd:=zG di k;have okq:Mi.Rn.Ok { q with n:=q.n+1,here:=at4 di k }:=⟨R.ok.h,R.ok.tl,R.ok.tb,hbd.1,hbd.2⟩;have hst:q.h.state=0:=by have:=R.st;rw[R.h]at this;exact this
   have hrn:Hh.Rn r.h:=CE R.may R.st;have hz:rg q.h 0=0:=by have:=hrn.z;rw[R.h]at this;exact this
   have okr:r.h.Ok:=by rw[R.h];exact R.ok.h.go hbd.1 hbd.2
   obtain⟨F,FL⟩:=hb k hkc { q with n:=q.n+1,here:=at4 di k } R.over okq hst hz rfl (by show q.m.length<=4096;rw[<-R.m,hlen];exact hll);have hpc:r.h.pc=at4 di k:=by rw[R.h];rfl
   have eS:eF r.h r.m=qz (q.h.go (at4 di k)) q.m (xs k):=by
    unfold eF;have hok:bR r.m 13 r.h.pc=true:=by
     rw[hpc];have:=B.ok k hkc;unfold bR at this ⊢;rw[hlen];exact this
    rw[awn hok,hpc,hw k (arA _) hkc,R.h,R.m]
   have gS:=mV hrn r.m;have mS:=IL okr r.m;rw[<-show eF r.h r.m=qz (({ q with n:=q.n+1,here:=at4 di k }:Mi.Rn).h.go (at4 di k)) ({ q with n:=q.n+1,here:=at4 di k }:Mi.Rn).m (xs k)from eS]at F FL;have aiE:IC di last steps (n+1) k r=if yh di last k (eF r.h r.m)=true then b1 r else IC di last steps n (k+1) (b1 r):=by
    rw[IC,awn];have:=R.le;rw[R.n];omega
   rw[aiE];have OT:lo (at4 di k+4)=at4 di (k+1):=by
    rw[ha,ha1];have:lo (di+4*(k:Int)+4)=di+4*(k:Int)+4:=asH ab ab;rw[this];omega
   have aiF:Wd.lo (di+(4*(k:Int)+4))=at4 di (k+1):=by
    rw[<-OT,ha];congr 1;omega
   have Zf:=OQ mS (di:=di) (last:=last) ab (by rw[hlen];exact hll);generalize hq':bF di last steps { q with n:=q.n+1,here:=at4 di k } (bd k)=q' at *
   have eqb:q'.h=(eF r.h r.m).h->Um q' (b1 r):=fun e=>⟨e,F.m,by rw[F.out];show q.out++_=r.out++_;rw[R.out],by rw[F.n];show q.n+1=r.n+1;rw[R.n],by rw[F.ax];show q.ax++_=r.ax++_;rw[R.ax]⟩
   rcases F.go with⟨g1,g2⟩|⟨g1,g2,g3,g4⟩
   ·rw[fE _ _ _ g1,su g1];have hE:=eqb g2;split
    ·exact hE
    ·rename_i hbs;have hs0:(eF r.h r.m).h.state=0:=by
      unfold yh at hbs;simp only[ate,awD,not_or,Classical.not_not]at hbs;exact hbs.1
     have hfin:k+1=cnt:=by
      rcases FL g1 with h|h
      ·exact B.fin k hkc h
      ·exact absurd hs0 h
     have hn0:n=0:=ab;subst hn0;exact hE
   ·have hS4:q'.h.go (at4 di (k+1))=(eF r.h r.m).h:=by
     rw[g4,CK,<-OT,<-g3,Ze]
    have hbs:yh di last k (eF r.h r.m)=(eF r.h r.m).ax.any (xD di last):=by
     unfold yh;rw[awq (by simp[g2]),awq (by rw[aiF,<-OT];simp[g3])];simp
    have aeY:=F.here g1;have hnn:0<q'.n:=by rw[F.n];exact Nat.succ_pos _
    have hEg:∀s:Mi.Rn,Um s { q' with h:=q'.h.go (at4 di (k+1)) }->Um s (b1 r):=fun s e=>by
     refine⟨?_,?_,?_,?_,?_⟩
     ·rw[e.h];exact hS4
     ·rw[e.m];exact F.m
     ·rw[e.out];show q'.out=_;rw[F.out];show q.out++_=r.out++_;rw[R.out]
     ·rw[e.n];show q'.n=_;rw[F.n];show q.n+1=r.n+1;rw[R.n]
     ·rw[e.ax];show q'.ax=_;rw[F.ax];show q.ax++_=r.ax++_;rw[R.ax]
    rw[hbs];split
    ·rename_i hh;have hown:q'.own=true:=by rw[F.own,<-Zf,hh];simp
     cases n with
     |zero=>
      have hc1:k+1=cnt:=ab;refine hEg _ ?_;rw[hc1];exact ht q' g1 hnn (by rw[aeY,OT,hc1])
     |succ n'=>
      refine hEg _ ?_;show Um (mend (bF di last steps q' (⟨1,0,0,0,at4 di (k+1)⟩::((bd (k+1)++qI di bd n' (k+1+1))++tail)))) _
      rw[bF,awm (by simp[g1]),OP];have e3:KA steps q' (at4 di (k+1))=q'.stop (at4 di (k+1)):=by unfold KA;rw[awn (.inr hown)]
      rw[e3,fE _ _ _ rfl,su rfl];exact⟨rfl,rfl,rfl,rfl,rfl⟩
    ·rename_i hh;have hno:(eF r.h r.m).ax.any (xD di last)=false:=by simpa using hh
     have hown:q'.own=false:=by rw[F.own,<-Zf,hno];show(q.own ||false)=false;rw[R.own];rfl
     refine CL B hb ht n (k+1) q' (b1 r) ab ⟨g1,F.ok,gS.1,g2,hS4.symm,F.m.symm,by rw[F.out];show r.out++_=q.out++_;rw[R.out],by rw[F.n];show r.n+1=q.n+1;rw[R.n],by rw[F.ax];show r.ax++_=q.ax++_;rw[R.ax],hown,?_,.inr ⟨hnn,by rw[aeY];exact OT⟩⟩ ?_ ?_
     ·rw[F.n];have:=R.le;show((q.n+1:Nat):Int)<=steps
      omega
     ·intro j hj1 hj2;have haj:=B.at_ j ab;show aT (eF r.h r.m).m 13 (at4 di j)=xs j
      rw[vG mS (di:=di) (last:=last) (by rw[hlen];exact hll) hno ab ab ab];exact hw j ab hj2
     ·show(eF r.h r.m).m.length=l.length
      rw[gS.2.1,hlen]
theorem KF (B : VE l di last cnt xs) (hb : ∀ j, j < cnt → Fg di last steps (at4 di j) (xs j) (bd j)) (ht : Fh di last steps (at4 di cnt) tail)(o :h.Ok) (hm :may h =true) (hs :h.state =0) (hp :h.pc =di) (h0 :0 <= steps) (hx : ∀ j, j < cnt -> aT l 13 (at4 di j) =xs j) :Um (dI di last steps h l (qI di bd cnt 0 ++ tail)) (IC di last steps cnt 0 (mstart h l)) :=by
  have e :at4 di 0 =di :=by have :=B.at_ 0 (arQ _); simpa using this
  refine CL B hb ht cnt 0 (mstart h l) (mstart h l) (arH _) ⟨rfl, (Gd.start (bf :=di) (bt :=last) o hs B.len).ok, hm, hs, ?_, rfl, rfl, rfl, rfl, rfl, by simpa[mstart]using h0, .inl rfl⟩ (fun j _ hj => hx j hj) rfl;rw[e, <- hp];rfl
theorem tail_nil (bf bt steps a):Fh bf bt steps a []:=fun q ho hn hh=>by
 show Um (mend q) _
 unfold mend;rw[awn ⟨ho,hn⟩,hh];exact⟨rfl,rfl,rfl,rfl,rfl⟩
end Ts
namespace Ts
open Mm Wd Mi Bk
open Hh hiding Rn
variable{k:Int}{q:Mi.Rn}{S:Sv}
def je (bf bt steps a op rd r1 r2 im:Int) (body:List Mv):Prop:=∀q:Mi.Rn,q.over=false->q.Ok->q.h.state=0->rg q.h 0=0->q.here=a->q.m.length<=4096->
 Fit bf bt a q (ins (q.h.go a) q.m op rd r1 r2 im) (bF bf bt steps q body)/\((bF bf bt steps q body).over=true->eU op=true\/¬(ins (q.h.go a) q.m op rd r1 r2 im).h.state=0)
theorem VF {body}(hx:¬Dc.aO x=0)(h:je bf bt steps a (Dc.aO x) (Dc.jd (Dc.aM (Dc.aO x)) x) (Dc.dh (Dc.aM (Dc.aO x)) x) (Dc.cz (Dc.aM (Dc.aO x)) x) (Dc.bU (Dc.aM (Dc.aO x)) x) body):Fg bf bt steps a x body:=fun q h1 h2 h3 h4 h5 h6=>by have:=h q h1 h2 h3 h4 h5 h6;unfold qz;rw[awm hx];exact this
theorem gp (ho:q.over=false)(i):bF bf bt steps q [i]=jK bf bt steps q i:=by rw[bF,awm (by simp[ho]),bF]
theorem sw {q'}{X}{o}{s}(hS:S=⟨X.go (lo (a+4)),q'.m,o,s⟩)(hq:q'.Ok)(ov:q'.over=false)(hh:q'.here=a)(hX:q'.h=X)(hpc:X.pc=q.h.pc)(hst:X.state=0)(ho:q'.out=q.out++o)(hs:q'.ax=q.ax++s)(hn:q'.n=q.n)(hw:q'.own=(q.own ||s.any (meet bf bt))):Fit bf bt a q S q':=by subst hS;exact⟨hq,rfl,ho,hs,hn,hw,fun _=>hh,.inr ⟨ov,hst,rfl,by rw[hX];show X=(X.go _).go _;rw[CK,<-hpc,Ze]⟩⟩
theorem uO {q'}{o}{s}(hS:S=⟨q'.h,q'.m,o,s⟩)(hq:q'.Ok)(ov:q'.over=true)(ho:q'.out=q.out++o)(hs:q'.ax=q.ax++s)(hn:q'.n=q.n)(hw:q'.own=(q.own ||s.any (meet bf bt))):Fit bf bt a q S q':=by subst hS;exact⟨hq,rfl,ho,hs,hn,hw,fun h=>(by rw[ov]at h;cases h),.inl ⟨ov,rfl⟩⟩
theorem OU (Y:Hv)(a)(r)(x):(Y.go a).put r x=(Y.put r x).go a:=by
 cases x with
 |none=>rfl
 |some x=>
  show(Y.go a).set r x=(Y.set r x).go a
  unfold Hv.set;split<;>rfl
theorem sD (Y:Hv)(r)(x):(Y.put r x).state=Y.state/\(Y.put r x).pc=Y.pc:=by
 cases x with
 |none=>exact⟨rfl,rfl⟩
 |some x=>
  show(Y.set r x).state=Y.state/\(Y.set r x).pc=Y.pc
  unfold Hv.set;split<;>exact⟨rfl,rfl⟩
theorem vH {h Y:Hv}{m}{o}{res}(hE:gN (h.go a) l op (rg h r1.toNat) (rg h r2.toNat) (lo im)=⟨Y.go a,m,o,s,res⟩)(hY:Y.state=0)(hx:¬op=3/\¬op=4/\(op<5\/10<op)):ins (h.go a) l op rd r1 r2 im=⟨(Y.put rd.toNat res).go (lo (a+4)),m,o,s⟩:=by
 have e:ins (h.go a) l op rd r1 r2 im=done (gN (h.go a) l op (rg h r1.toNat) (rg h r2.toNat) (lo im)) rd.toNat (rX (h.go a) op (rg h r1.toNat) (rg h r2.toNat) (lo im)):=rfl;have en:rX (h.go a) op (rg h r1.toNat) (rg h r2.toNat) (lo im)=lo (a+4):=by
  unfold rX;rw[awm hx.2.1,awm (by rw[Cz hx.2.2];simp[hx.1])];rfl
 rw[e,hE,en];unfold done;simp only;rw[OU];unfold Hv.on;rw[awn (by show(Y.put rd.toNat res).state=0;rw[(sD _ _ _).1];exact hY),CK]
theorem CO {h Y:Hv}{rd}(hE:gN (h.go a) l op (rg h r1.toNat) (rg h r2.toNat) (lo im)=⟨Y.go a,m,o,s,none⟩)(hY:¬Y.state=0):ins (h.go a) l op rd r1 r2 im=⟨Y.go a,m,o,s⟩:=by have e:ins (h.go a) l op rd r1 r2 im=done (gN (h.go a) l op (rg h r1.toNat) (rg h r2.toNat) (lo im)) rd.toNat (rX (h.go a) op (rg h r1.toNat) (rg h r2.toNat) (lo im)):=rfl;rw[e,hE];unfold done Hv.put Hv.on;simp only;rw[awm (by show¬Y.state=0;exact hY)]
theorem gT (q:Mi.Rn)(h:k<32):q.get k=rg q.h k.toNat:=by unfold Rn.get;rw[awn h]
theorem mD (q:Mi.Rn)(h:k<32)(x):q.put k x={ q with h:=q.h.set k.toNat x }:=by unfold Rn.put;rw[ak]
theorem qJ (ok:q.Ok)(ov:q.over=false)(st:q.h.state=0)(hh:q.here=a)(hr:rd<32)(wx:W x)(hE:gN (q.h.go a) q.m op (rg q.h r1.toNat) (rg q.h r2.toNat) (lo im)=⟨q.h.go a,q.m,[],[],some x⟩)(hx:¬op=3/\¬op=4/\(op<5\/10<op)):Fit bf bt a q (ins (q.h.go a) q.m op rd r1 r2 im) (q.put rd x):=by
 have Zg:=ok.put rd wx;rw[mD q hr]at Zg ⊢;refine sw (X:=q.h.set rd.toNat x) (o:=[]) (s:=[]) (vH (res:=some x) hE st hx) Zg ov hh rfl ?_ ?_ aq aq rfl aq
 ·exact(sD q.h rd.toNat (some x)).2
 ·exact(sD q.h rd.toNat (some x)).1.trans st
theorem qK {bf bt a op:Int}(ov:q.over=false):(q.put rd x).over=true->P:=fun h=>by
 have:(q.put rd x).over=q.over:=by unfold Rn.put;split<;>rfl
 rw[this,ov]at h;cases h
theorem jQ {bf bt rd c}(ok:q.Ok)(hh:q.here=a)(hE:gN (q.h.go a) q.m op (rg q.h r1.toNat) (rg q.h r2.toNat) (lo im)=⟨(q.h.trap c).go a,q.m,[],[],none⟩):Fit bf bt a q (ins (q.h.go a) q.m op rd r1 r2 im) (q.trap c)/\¬(ins (q.h.go a) q.m op rd r1 r2 im).h.state=0:=by
 have e:=CO (rd:=rd) hE (by simp[Hv.trap]);refine⟨uO (o:=[]) (s:=[]) ?_ (ok.trap c) rfl (by simp[Rn.trap]) (by simp[Rn.trap]) rfl (by simp[Rn.trap]),?_⟩
 ·rw[e];show _=(⟨(q.h.trap c).go q.here,q.m,[],[]⟩:Sv)
  rw[hh]
 ·rw[e];simp[Hv.trap,Hv.go]
section
theorem CQ (x)(hr:rd<32)(wx:W x)(hE:∀(h) (l),gN (h.go a) l op (rg h r1.toNat) (rg h r2.toNat) (lo im)=⟨h.go a,l,[],[],some x⟩)(hx:¬op=3/\¬op=4/\(op<5\/10<op)):je bf bt steps a op rd r1 r2 im [⟨2,rd,0,0,x⟩]:=fun q ov ok st z hh hl=>by
 rw[gp ov];have e:jK bf bt steps q ⟨2,rd,0,0,x⟩=q.put rd x:=by unfold jK;rw[awm aq,awn rfl]
 rw[e];exact⟨qJ ok ov st hh hr wx (hE _ _) hx,qK (op:=op) (bf:=bf) (bt:=bt) (a:=a) ov⟩
theorem OV (hr:rd<32)(ho:op=1):je bf bt steps a op rd r1 r2 im [⟨2,rd,0,0,lo im⟩]:=CQ _ hr (W.lo _) (fun h l=>by subst ho;unfold gN;rw[awn rfl]) ab
theorem Fj (hr:rd<32)(ho:op=2):je bf bt steps a op rd r1 r2 im [⟨2,rd,0,0,lo (a+lo im)⟩]:=CQ _ hr (W.lo _) (fun h l=>by subst ho;unfold gN;rw[ak,awn rfl];rfl) ab
theorem OX (hr:rd<32)(h1:r1<32)(h2:r2<32)(ho:28<=op/\op<=45):je bf bt steps a op rd r1 r2 im [⟨400+op,rd,r1,r2,0⟩]:=fun q ov ok st z hh hl=>by rw[gp ov,iK (c:=400) (k:=op) ab ab rfl ab];unfold xC;rw[ak,ak,ak,awn rfl];simp only[gT q h1,gT q h2];refine⟨qJ ok ov st hh hr (W.fB (ok.h.reg _) (ok.h.reg _)) ?_ ab,qK (op:=op) (bf:=bf) (bt:=bt) (a:=a) ov⟩;unfold gN;rw[ak,ak,ak,ak,ak,ak,awn ho]
theorem OY (hr:rd<32)(h1:r1<32)(ho:19<=op/\op<=27):je bf bt steps a op rd r1 r2 im [⟨500+opn op,rd,r1,0,lo im⟩]:=fun q ov ok st z hh hl=>by
 have hop:28<=opn op/\opn op<=45:=by unfold opn;(repeat' split)<;>omega
 rw[gp ov,iK (c:=500) (k:=opn op) ab ab rfl ab];unfold xC;rw[ak,ak,ak,ak,awn rfl];simp only[gT q h1];refine⟨qJ ok ov st hh hr (W.fB (ok.h.reg _) (W.lo _)) ?_ ab,qK (op:=op) (bf:=bf) (bt:=bt) (a:=a) ov⟩;unfold gN;rw[ak,ak,ak,ak,ak,awn ho]
theorem VG (hr:rd<32)(h1:r1<32)(ho:11<=op/\op<=15):je bf bt steps a op rd r1 r2 im [⟨200+op,rd,r1,0,lo im⟩]:=fun q ov ok st z hh hl=>by
 rw[gp ov,iK (c:=200) (k:=op) ab ab rfl ab];unfold xC;rw[ak,awn rfl];simp only[gT q h1];have hE:gN (q.h.go a) q.m op (rg q.h r1.toNat) (rg q.h r2.toNat) (lo im)=bJ (q.h.go a) q.m op (lo (rg q.h r1.toNat+lo im)):=by
  unfold gN;rw[ak,ak,ak,awn ho]
 unfold Cu;by_cases hk:bR q.m op (lo (rg q.h r1.toNat+lo im))=true
 ·rw[awn hk];refine⟨qJ ok ov st hh hr (W.aT _ _ _) ?_ ab,qK (op:=op) (bf:=bf) (bt:=bt) (a:=a) ov⟩;rw[hE];unfold bJ;rw[awn hk]
 ·rw[awm hk];have t:=jQ (bf:=bf) (bt:=bt) (rd:=rd) (c:=3) ok hh (r1:=r1) (r2:=r2) (im:=im) (op:=op) (by rw[hE];unfold bJ;rw[awm hk];rfl);exact⟨t.1,fun _=>.inr t.2⟩
theorem zJ (hl:l.length<=4096)(hp:0<=p)(h:eP l op p=true):hits bf bt p (iD op)=meet bf bt (p,((iD op:Nat):Int)):=by
 have hz:p+(iD op:Int)<=l.length:=by
  unfold eP rR at h;simp only[awD]at h;exact h.2.2
 exact yj hp ab (rT _)
theorem VH (h1:r1<32)(h2:r2<32)(ho:16<=op/\op<=18):je bf bt steps a op rd r1 r2 im [⟨300+op,0,r1,r2,lo im⟩]:=fun q ov ok st z hh hl=>by
 rw[gp ov,iK (c:=300) (k:=op) ab ab rfl ab];unfold xC;rw[ak,ak,awn rfl];simp only[gT q h1,gT q h2];have hE:gN (q.h.go a) q.m op (rg q.h r1.toNat) (rg q.h r2.toNat) (lo im)=aI (q.h.go a) q.m op (lo (rg q.h r1.toNat+lo im)) (rg q.h r2.toNat):=by
  unfold gN;rw[ak,ak,ak,ak,awn ho]
 unfold vD;by_cases hk:eP q.m op (lo (rg q.h r1.toNat+lo im))=true
 ·rw[awn hk];have hm:=zJ (bf:=bf) (bt:=bt) hl (W.lo _).1 hk;refine⟨sw (X:=q.h) (o:=[]) (s:=[(lo (rg q.h r1.toNat+lo im),((iD op:Nat):Int))]) ?_ ((ok.mem _).stored _ _ _ _) ov hh rfl rfl st (by simp[Rn.stored]) rfl rfl (by simp[Rn.stored,hm]),fun h=>?_⟩
  ·rw[vH (Y:=q.h) (res:=none) (m:=jb q.m op (lo (rg q.h r1.toNat+lo im)) (rg q.h r2.toNat)) (o:=[]) (s:=[(lo (rg q.h r1.toNat+lo im),((iD op:Nat):Int))]) (by rw[hE];unfold aI;rw[awn hk]) st ab];rfl
  ·have:q.over=true:=h;rw[ov]at this;cases this
 ·rw[awm hk];have t:=jQ (bf:=bf) (bt:=bt) (rd:=rd) (c:=4) ok hh (r1:=r1) (r2:=r2) (im:=im) (op:=op) (by rw[hE];unfold aI;rw[awm hk];rfl);exact⟨t.1,fun _=>.inr t.2⟩
theorem Fp (ho:op=57):je bf bt steps a op rd r1 r2 im []:=fun q ov ok st z hh hl=>by
 have hE:gN (q.h.go a) q.m op (rg q.h r1.toNat) (rg q.h r2.toNat) (lo im)=⟨q.h.go a,q.m,[],[],none⟩:=by
  unfold gN;rw[ak,ak,ak,ak,ak,ak,ak,ak,ak,ak]
 refine⟨sw (X:=q.h) (o:=[]) (s:=[]) ?_ ok ov hh rfl rfl st (by simp[bF]) (by simp[bF]) rfl (by simp[bF]),fun h=>?_⟩
 ·rw[vH (Y:=q.h) (res:=none) hE st ab];rfl
 ·have:q.over=true:=h;rw[ov]at this;cases this
theorem Fs (ho:op=59):je bf bt steps a op rd r1 r2 im [⟨6,0,0,0,0⟩]:=fun q ov ok st z hh hl=>by
 rw[gp ov];have e:jK bf bt steps q ⟨6,0,0,0,0⟩=q.trap 6:=by unfold jK;rw[awm aq,awm aq,awm aq,awm aq,awm aq,awn rfl]
 rw[e];have t:=jQ (bf:=bf) (bt:=bt) (rd:=rd) (c:=6) ok hh (r1:=r1) (r2:=r2) (im:=im) (op:=op) (by unfold gN;rw[ak,ak,ak,ak,ak,ak,ak,ak,ak,awn ho];rfl);exact⟨t.1,fun _=>.inr t.2⟩
theorem KG (ho:op=58):je bf bt steps a op rd r1 r2 im [⟨5,0,0,0,0⟩]:=fun q ov ok st z hh hl=>by
 rw[gp ov];have e:jK bf bt steps q ⟨5,0,0,0,0⟩=vE q:=by unfold jK;rw[awm aq,awm aq,awm aq,awm aq,awn rfl]
 rw[e];have hE:gN (q.h.go a) q.m op (rg q.h r1.toNat) (rg q.h r2.toNat) (lo im)=bE (q.h.go a) q.m:=by
  unfold gN;rw[ak,ak,ak,ak,ak,ak,ak,ak,awn ho]
 unfold vE;unfold bE at hE;have hrg:∀k,rg (q.h.go a) k=rg q.h k:=fun _=>rfl
 rw[hrg,hrg]at hE;by_cases h0:rg q.h 17=0
 ·rw[awn h0]at hE ⊢;have e2:=CO (rd:=rd) (Y:=q.h.halt) hE (by simp[Hv.halt]);refine⟨uO (o:=[]) (s:=[]) ?_ ⟨ok.h.halt.go ok.h0 ok.h1,ok.tl,ok.tb,ok.h0,ok.h1⟩ rfl aq aq rfl aq,fun _=>.inr ?_⟩
  ·rw[e2];show _=(⟨q.h.halt.go q.here,q.m,[],[]⟩:Sv)
   rw[hh]
  ·rw[e2];simp[Hv.halt,Hv.go]
 rw[awm h0]at hE ⊢;by_cases h1:rg q.h 17=1
 ·rw[awn h1]at hE ⊢;refine⟨sw (X:=q.h) (o:=[rg q.h 10]) (s:=[]) ?_ ⟨ok.h,ok.tl,ok.tb,ok.h0,ok.h1⟩ ov hh rfl rfl st rfl aq rfl aq,fun h=>?_⟩
  ·rw[vH (Y:=q.h) (res:=none) hE st ab];rfl
  ·have:q.over=true:=h;rw[ov]at this;cases this
 ·rw[awm h1]at hE ⊢;have t:=jQ (bf:=bf) (bt:=bt) (rd:=rd) (c:=5) ok hh (r1:=r1) (r2:=r2) (im:=im) (op:=op) hE;exact⟨t.1,fun _=>.inr t.2⟩
end
end Ts
namespace Ts
open Mm Wd Mi Bk
open Hh hiding Rn
section
variable{k:Int}{q:Mi.Rn}
theorem VI (h1:r1<32)(h2:r2<32)(ho:5<=op/\op<=10):je bf bt steps a op rd r1 r2 im [⟨100+op,0,r1,r2,lo (a+lo im)⟩]:=fun q ov ok st z hh hl=>by
 rw[gp ov,iK (c:=100) (k:=op) ab ab rfl ab];unfold xC;rw[awn rfl];simp only[gT q h1,gT q h2];have hE:gN (q.h.go a) q.m op (rg q.h r1.toNat) (rg q.h r2.toNat) (lo im)=⟨q.h.go a,q.m,[],[],none⟩:=by
  unfold gN;rw[ak,ak,ak,ak,ak,ak,ak,ak,ak,ak]
 have e:ins (q.h.go a) q.m op rd r1 r2 im=done (gN (q.h.go a) q.m op (rg q.h r1.toNat) (rg q.h r2.toNat) (lo im)) rd.toNat (rX (q.h.go a) op (rg q.h r1.toNat) (rg q.h r2.toNat) (lo im)):=rfl;rw[e,hE];have ed:∀x,done ⟨q.h.go a,q.m,[],[],none⟩ rd.toNat x=⟨q.h.go x,q.m,[],[]⟩:=fun x=>by
  unfold done Hv.put Hv.on;simp only;rw[awn (by show q.h.state=0;exact st),CK]
 rw[ed];have hlast:eU op=true:=by unfold eU;exact awC ab
 by_cases hk:holds op (rg q.h r1.toNat) (rg q.h r2.toNat)=true
 ·rw[awn hk];have en:rX (q.h.go a) op (rg q.h r1.toNat) (rg q.h r2.toNat) (lo im)=lo (a+lo im):=by
   unfold rX;rw[ak,awn (.inr hk)];rfl
  rw[en];exact⟨uO (o:=[]) (s:=[]) rfl (ok.stop (W.lo _)) rfl (by simp[Rn.stop]) (by simp[Rn.stop]) rfl (by simp[Rn.stop]),fun _=>.inl hlast⟩
 ·rw[awm hk];have en:rX (q.h.go a) op (rg q.h r1.toNat) (rg q.h r2.toNat) (lo im)=lo (a+4):=by
   unfold rX;rw[ak,awm (by simp[hk];omega)];rfl
  rw[en];exact⟨sw (X:=q.h) (o:=[]) (s:=[]) rfl ok ov hh rfl rfl st aq aq rfl aq,fun _=>.inl hlast⟩
theorem CR {q'}{x pc}(ok:q'.Ok)(st:q.h.state=0)(ov:q'.over=true)(hE:gN (q.h.go a) q.m op (rg q.h r1.toNat) (rg q.h r2.toNat) (lo im)=⟨q.h.go a,q.m,[],[],some x⟩)(hN:rX (q.h.go a) op (rg q.h r1.toNat) (rg q.h r2.toNat) (lo im)=pc)(hh:q'.h=(q.h.set rd.toNat x).go pc)(hm:q'.m=q.m)(ho:q'.out=q.out)(hs:q'.ax=q.ax)(hn:q'.n=q.n)(hw:q'.own=q.own):Fit bf bt a q (ins (q.h.go a) q.m op rd r1 r2 im) q':=by have e:ins (q.h.go a) q.m op rd r1 r2 im=done (gN (q.h.go a) q.m op (rg q.h r1.toNat) (rg q.h r2.toNat) (lo im)) rd.toNat (rX (q.h.go a) op (rg q.h r1.toNat) (rg q.h r2.toNat) (lo im)):=rfl;refine uO (o:=[]) (s:=[]) ?_ ok ov (by simp[ho]) (by simp[hs]) hn (by simp[hw]);rw[e,hE,hN];unfold done;simp only;rw[OU];unfold Hv.on;rw[awn (by show(q.h.put rd.toNat (some x)).state=0;rw[(sD _ _ _).1];exact st),CK,hh,hm];rfl
theorem OZ (ho:q.over=false)(i)(is):bF bf bt steps q (i::is)=bF bf bt steps (jK bf bt steps q i) is:=by rw[bF,awm (by simp[ho])]
theorem mW (q:Mi.Rn)(k x):(q.put k x).over=q.over:=by unfold Rn.put;split<;>rfl
theorem IM (d x):jK bf bt steps q ⟨2,d,0,0,x⟩=q.put d x:=by unfold jK;rw[awm aq,awn rfl]
theorem aa1 (x):jK bf bt steps q ⟨3,0,0,0,x⟩=q.stop x:=by unfold jK;rw[awm aq,awm aq,awn rfl]
theorem VJ (r x):jK bf bt steps q ⟨4,0,r,0,x⟩=q.stop (lo (q.get r+x)-lo (q.get r+x)%2):=by unfold jK;rw[awm aq,awm aq,awm aq,awn rfl]
theorem VK (d r x):jK bf bt steps q ⟨528,d,r,0,x⟩=q.put d (fB 28 (q.get r) x):=by rw[iK (c:=500) (k:=28) ab ab rfl ab];unfold xC;rw[ak,ak,ak,ak,awn rfl]
theorem IP (x y):fB 28 x y=lo (x+y):=by unfold fB;rw[awn rfl]
theorem Zi (h:W x):lo x=x:=asH h.1 h.2
theorem O9 (hr:rd<32)(ho:op=3):je bf bt steps a op rd r1 r2 im [⟨2,rd,0,0,lo (a+4)⟩,⟨3,0,0,0,lo (a+lo im)⟩]:=fun q ov ok st z hh hl=>by
 subst ho;rw[OZ ov,IM,gp (by rw[mW];exact ov),aa1];refine⟨?_,fun _=>.inl rfl⟩;have Zg:=ok.put rd (W.lo (a+4));rw[mD q hr]at Zg ⊢;refine CR (x:=lo (a+4)) (pc:=lo (a+lo im)) (Zg.stop (W.lo _)) st rfl ?_ ?_ rfl rfl rfl rfl rfl rfl
 ·unfold gN;rw[ak,ak,eB];rfl
 ·unfold rX;rw[ak,awn (.inl rfl)];rfl
theorem Pm (h:Hv)(l)(A B n):gN (h.go a) l 4 A B n=⟨h.go a,l,[],[],some (lo (a+4))⟩:=by unfold gN;rw[ak,ak,eB];rfl
theorem Pn (h:Hv)(A B n):rX (h.go a) 4 A B n=lo (A+n)-lo (A+n)%2:=by unfold rX;rw[awn rfl]
theorem aeZ (x):W (lo x-lo x%2):=by have:=W.lo x;unfold W at *;omega
theorem Po (q:Mi.Rn)(h:32<=k)(x):q.put k x={ q with tm:=q.tm.set (k-32).toNat x }:=by unfold Rn.put;rw[awn h]
theorem aa2 (ok:q.Ok)(h0:32<=t)(h1:t<36)(x):(q.put t x).get t=x:=by
 rw[Po q h0];unfold Rn.get;rw[ak];show(q.tm.set (t-32).toNat x).getD (t-32).toNat 0=x
 rw[OG,awn ⟨rfl,by rw[ok.tl];omega⟩]
theorem Fu (q:Mi.Rn)(h0:32<=t)(hk:k<32)(x y:Int):(q.put k x).get t=q.get t:=by rw[mD q hk];unfold Rn.get;rw[ak,ak]
theorem Fv (t)(h0:32<=t)(h1:t<36)(hr:rd<32)(hr1:r1<32)(ho:op=4):je bf bt steps a op rd r1 r2 im [⟨528,t,r1,0,lo im⟩,⟨2,rd,0,0,lo (a+4)⟩,⟨4,0,t,0,0⟩]:=fun q ov ok st z hh hl=>by
 subst ho;have eA:fB 28 (q.get r1) (lo im)=lo (rg q.h r1.toNat+lo im):=by rw[IP,gT q hr1]
 rw[OZ ov,VK,eA];have ok1:=ok.put t (W.lo (rg q.h r1.toNat+lo im));rw[OZ (by rw[mW];exact ov),IM,gp (by rw[mW,mW];exact ov),VJ];rw[Fu _ h0 hr _ 0,aa2 ok h0 h1,Int.add_zero,Zi (W.lo _)];refine⟨?_,fun _=>.inl rfl⟩;have ok2:=(ok1.put rd (W.lo (a+4))).stop (aeZ (rg q.h r1.toNat+lo im));rw[mD _ hr,Po q h0]at ok2 ⊢;exact CR (x:=lo (a+4)) (pc:=lo (rg q.h r1.toNat+lo im)-lo (rg q.h r1.toNat+lo im)%2) ok2 st rfl (Pm _ _ _ _ _) (Pn _ _ _ _) rfl rfl rfl rfl rfl rfl
theorem qL {q q2:Mi.Rn}{s}(hE:gN (q.h.go a) q.m op (rg q.h r1.toNat) (rg q.h r2.toNat) (lo im)=⟨q2.h.go a,q2.m,[],s,some x⟩)(ok:q2.Ok)(ov:q2.over=false)(st:q2.h.state=0)(hpc:q2.h.pc=q.h.pc)(hh:q2.here=a)(ho:q2.out=q.out)(hs:q2.ax=q.ax++s)(hn:q2.n=q.n)(hw:q2.own=(q.own ||s.any (meet bf bt)))(hr:rd<32)(wx:W x)(hx:¬op=3/\¬op=4/\(op<5\/10<op)):Fit bf bt a q (ins (q.h.go a) q.m op rd r1 r2 im) (q2.put rd x):=by
 have Zg:=ok.put rd wx;rw[mD q2 hr]at Zg ⊢;refine sw (X:=q2.h.set rd.toNat x) (o:=[]) (s:=s) (vH (res:=some x) hE st hx) Zg ov hh rfl ?_ ?_ (by simp[ho]) hs hn hw
 ·exact(sD q2.h rd.toNat (some x)).2.trans hpc
 ·exact(sD q2.h rd.toNat (some x)).1.trans st
theorem KI (hr:rd<32)(h1:r1<32)(h2:r2<32)(ho:46<=op/\op<=56):je bf bt steps a op rd r1 r2 im [⟨600+op,rd,r1,r2,0⟩]:=fun q ov ok st z hh hl=>by
 rw[gp ov,iK (c:=600) (k:=op) ab ab rfl ab];unfold xC;rw[ak,ak,ak,ak,ak,awn rfl];simp only[gT q h1,gT q h2];have wA:=ok.h.reg r1.toNat;have wB:=ok.h.reg r2.toNat;have hE:gN (q.h.go a) q.m op (rg q.h r1.toNat) (rg q.h r2.toNat) (lo im)=aN (q.h.go a) q.m op (rg q.h r1.toNat) (rg q.h r2.toNat):=by
  unfold gN;rw[ak,ak,ak,ak,ak,ak,ak,awn ho]
 have hx:¬op=3/\¬op=4/\(op<5\/10<op):=ab;have no:∀{q2:Mi.Rn} {x:Int} {P:Prop},q2.over=false->(q2.put rd x).over=true->P:=fun e h=>by rw[mW,e]at h;cases h
 unfold Cw;unfold aN at hE;by_cases q6:op=46
 ·rw[awn q6]at hE ⊢;unfold mLr;unfold ik at hE;by_cases hk:bR q.m 13 (rg q.h r1.toNat)=true
  ·rw[awn hk]at hE ⊢;exact⟨qL (q:=q) (bf:=bf) (bt:=bt) (q2:={ q with h:=q.h.hold true (rg q.h r1.toNat) }) (s:=[]) hE (ok.hart (ok.h.hold true wA.1 wA.2)) ov st rfl hh rfl aq rfl aq hr (W.aT _ _ _) hx,no (q2:={ q with h:=q.h.hold true (rg q.h r1.toNat) }) ov⟩
  ·rw[awm hk]at hE ⊢;have t:=jQ (bf:=bf) (bt:=bt) (rd:=rd) (c:=3) ok hh hE;exact⟨t.1,fun _=>.inr t.2⟩
 rw[awm q6]at hE ⊢;by_cases q7:op=47
 ·rw[awn q7]at hE ⊢;unfold mSc;unfold fC at hE;by_cases hk:bR q.m 13 (rg q.h r1.toNat)=true
  ·rw[awn hk]at hE ⊢;have hm:=zJ (op:=18) (bf:=bf) (bt:=bt) hl wA.1 (bK hk);have okH:=ok.hart (ok.h.hold false (x:=0) ab ab);by_cases hd:q.h.held=true/\q.h.aW=rg q.h r1.toNat
   ·rw[awn hd];have hd2:(q.h.go a).held=true/\(q.h.go a).aW=rg q.h r1.toNat:=hd;rw[awn hd2]at hE;exact⟨qL (q:=q) (bf:=bf) (bt:=bt) (q2:={ q with h:=q.h.hold false 0,m:=jb q.m 18 (rg q.h r1.toNat) (rg q.h r2.toNat) }.stored bf bt (rg q.h r1.toNat) 4) (s:=[(rg q.h r1.toNat,4)]) hE ((okH.mem _).stored _ _ _ _) ov st rfl hh rfl rfl rfl (by show(q.own ||hits bf bt _ 4)=_;rw[show hits bf bt (rg q.h r1.toNat) 4=meet bf bt (rg q.h r1.toNat,4)from hm];simp) hr .zero hx,no (q2:={ q with h:=q.h.hold false 0,m:=jb q.m 18 (rg q.h r1.toNat) (rg q.h r2.toNat) }.stored bf bt (rg q.h r1.toNat) 4) ov⟩
   ·rw[awm hd];have hd2:¬((q.h.go a).held=true/\(q.h.go a).aW=rg q.h r1.toNat):=hd;rw[awm hd2]at hE;exact⟨qL (q:=q) (bf:=bf) (bt:=bt) (q2:={ q with h:=q.h.hold false 0 }) (s:=[]) hE okH ov st rfl hh rfl aq rfl aq hr .one hx,no (q2:={ q with h:=q.h.hold false 0 }) ov⟩
  ·rw[awm hk]at hE ⊢;have t:=jQ (bf:=bf) (bt:=bt) (rd:=rd) (c:=4) ok hh hE;exact⟨t.1,fun _=>.inr t.2⟩
 rw[awm q7]at hE ⊢;unfold OE;unfold jv at hE;by_cases hk:bR q.m 13 (rg q.h r1.toNat)=true
 ·rw[awn hk]at hE ⊢;have hm:=zJ (op:=18) (bf:=bf) (bt:=bt) hl wA.1 (bK hk);exact⟨qL (q:=q) (bf:=bf) (bt:=bt) (q2:={ q with m:=jb q.m 18 (rg q.h r1.toNat) (nX op (aT q.m 13 (rg q.h r1.toNat)) (rg q.h r2.toNat)) }.stored bf bt (rg q.h r1.toNat) 4) (s:=[(rg q.h r1.toNat,4)]) hE ((ok.mem _).stored _ _ _ _) ov st rfl hh rfl rfl rfl (by show(q.own ||hits bf bt _ 4)=_;rw[show hits bf bt (rg q.h r1.toNat) 4=meet bf bt (rg q.h r1.toNat,4)from hm];simp) hr (W.aT _ _ _) hx,no (q2:={ q with m:=jb q.m 18 (rg q.h r1.toNat) (nX op (aT q.m 13 (rg q.h r1.toNat)) (rg q.h r2.toNat)) }.stored bf bt (rg q.h r1.toNat) 4) ov⟩
 ·rw[awm hk]at hE ⊢;have t:=jQ (bf:=bf) (bt:=bt) (rd:=rd) (c:=4) ok hh hE;exact⟨t.1,fun _=>.inr t.2⟩
end
end Ts
namespace Ts
open Mm Wd Mi Bk
open Hh hiding Rn
theorem gG (l:List UInt8)(pc:Int):∀n k,(blk l pc n k).length≤n∧∀j,j<(blk l pc n k).length→kJ l (at4 pc (k+j))=0∧(blk l pc n k)[j]?=some (aT l 13 (at4 pc (k+j)))∧(eU (Dc.aO (aT l 13 (at4 pc (k+j))))=true→j+1=(blk l pc n k).length)
 |0,k=>⟨arA _,fun j hj=>absurd hj (by simp[blk])⟩
 |n+1,k=>by
  by_cases h:kJ l (at4 pc k)=0
  ·cases hl:eU (Dc.aO (aT l 13 (at4 pc k)))with
   |true=>
    rw[qH h hl];refine⟨aq,fun j hj=>?_⟩;have hj0:j=0:=by simp at hj;omega
    subst hj0;exact⟨h,rfl,fun _=>rfl⟩
   |false=>
    rw[zI h hl];obtain⟨ih1,ih2⟩:=gG l pc n (k+1);refine⟨aE,fun j hj=>?_⟩
    match j,hj with
    |0,_=>exact⟨h,rfl,fun q=>by rw[asK]at q;rw[hl]at q;cases q⟩
    |j+1,hj=>
     obtain⟨a,b,c⟩:=ih2 j (by simp at hj;omega);rw[show k+1+j=k+(j+1)by omega]at a b c;exact⟨a,by simpa using b,fun q=>by have:=c q;simp;omega⟩
  ·rw[qG h];exact⟨aq,fun j hj=>absurd hj aq⟩
theorem oz (h:kJ l pc=0):bR l 13 pc=true/\¬Dc.aO (aT l 13 pc)=0:=by
 unfold kJ at h;split at h
 ·rename_i q;split at h
  ·cases h
  ·rename_i q2;exact⟨q,q2⟩
 ·cases h
theorem ae0 (h:bR l 13 a=true):a+4<=l.length:=by unfold bR rR at h;simp only[awD]at h;exact h.2.2
theorem VL (hl :l.length <= 4096) (h0 :0 <= pc) (h1 :pc < 4294967296) (hp :0 < (blk l pc 16 0).length) :VE l pc (pc + 4 * ((blk l pc 16 0).length :Int)) (blk l pc 16 0).length (fun j => aT l 13 (at4 pc j)) :=by
  obtain⟨_, f⟩ :=gG l pc 16 0;have f : ∀ j, j < (blk l pc 16 0).length -> kJ l (at4 pc j) =0 /\ (blk l pc 16 0)[j]? =some (aT l 13 (at4 pc j)) /\ (eU (Dc.aO (aT l 13 (at4 pc j))) =true -> j + 1 =(blk l pc 16 0).length) :=fun j hj => by
    have :=f j hj;rwa[arH]at this
  have at_ : ∀ j, j <= (blk l pc 16 0).length -> at4 pc j =pc + 4 * j :=by
    intro j;induction j with
    | zero => intro _; unfold at4; have : lo (pc + 4 * ((0 : Nat) : Int)) = pc := by rw [show pc + 4 * ((0 : Nat) : Int) = pc by omega]; exact asH h0 h1
              rw[this]; omega
    |succ j ih =>
      intro hj;have e :=ih ab;have :=ae0 (oz (f j ab).1).1;unfold at4 at e ⊢;rw[show lo (pc + 4 * ((j + 1 :Nat) :Int)) =pc + 4 * ((j + 1 :Nat) :Int)from asH ab (by unfold at4 at this; omega)]
  have hlast :=ae0 (oz (f ((blk l pc 16 0).length - 1) ab).1).1;rw[at_ _ ab]at hlast;exact⟨hp, h0, rfl, hl, by omega, at_, fun j hj => (oz (f j hj).1).1, fun j hj => (oz (f j hj).1).2, fun j hj q => (f j hj).2.2 q⟩
theorem ym (f x):0<=Dc.jd f x/\Dc.jd f x<32:=by unfold Dc.jd;split<;>omega
theorem Pq (f x):0<=Dc.dh f x/\Dc.dh f x<32:=by unfold Dc.dh;split<;>omega
theorem Pt (f x):0<=Dc.cz f x/\Dc.cz f x<32:=by unfold Dc.cz;split<;>omega
end Ts
namespace Re
open Dw
end Re
namespace Dw
theorem av {k}(h:a=b):Ending.returned (int k a)=returned (int k b):=by rw[h]
theorem aR {a b}(h:a=b):Ending.returned (.bool a)=returned (.bool b):=by rw[h]
theorem wrap_u32' (n):IntKind.u32.wrap n=n%4294967296:=by rfl
theorem ofInt32 (a:Nat)(ha:(a:Int)<4294967296):(BitVec.ofInt 32 (a:Int)).toNat=a:=by rw[BitVec.ofInt_natCast,BitVec.toNat_ofNat];exact Nat.mod_eq_of_lt ab
theorem fD (a b)(ha:0<=a)(ha':a<4294967296)(hb:0<=b)(hb':b<4294967296):bits .and .u32 a b=Wd.jc a b:=by
 obtain⟨a,rfl⟩:=arI ha;obtain⟨b,rfl⟩:=arI hb;have hx:a &&& b<2^32:=atB _ ab;show IntKind.u32.wrap ((BitVec.ofInt 32 (a:Int) &&& BitVec.ofInt 32 (b:Int)).toNat:Int)=_
 rw[axD,ofInt32 a ha',ofInt32 b hb',wrap_u32'];simp only[Wd.jc,arS];omega
theorem dx (a b)(ha:0<=a)(ha':a<4294967296)(hb:0<=b)(hb':b<4294967296):bits .or .u32 a b=Wd.uw a b:=by
 obtain⟨a,rfl⟩:=arI ha;obtain⟨b,rfl⟩:=arI hb;have hx:a |||b<2^32:=atF ab ab
 show IntKind.u32.wrap ((BitVec.ofInt 32 (a:Int) |||BitVec.ofInt 32 (b:Int)).toNat:Int)=_
 rw[BitVec.toNat_or,ofInt32 a ha',ofInt32 b hb',wrap_u32'];simp only[Wd.uw,arS];omega
theorem aH (a b c)(w):Calls prog 61 #[int i64 a,int i64 b,int i64 c] w fun e w'=>e=returned (.bool (decide (b<=a) && decide (a<=c)))/\w'=w:=by
 by_cases h:b<=a
 all_goals
  go_enter func61,ntmps61;go_wp2;go_ret;exact⟨aR (by simp[h];try omega),rfl⟩
theorem Pv (x)(n)(h0:0<=x)(h1:x<4294967296)(hn:n<=31):bits .and .u32 x ((2^n-1)%4294967296)=x%2^n:=by
 have hp:(2:Int) ^ n=((2^n:Nat):Int):=aq;have hb:(2:Nat) ^ n<=2^31:=asI ab hn;have hb0:0<(2:Nat) ^ n:=ato _;obtain⟨x,rfl⟩:=arI h0;have e:((2:Int) ^ n-1)%4294967296=((2^n-1:Nat):Int):=by rw[hp];omega
 rw[e,fD _ _ h0 h1 ab ab];unfold Wd.jc;rw[arS,arS,as1,hp];omega
theorem Fw (x y)(i)(hx:0<=x)(hy:0<=y)(h:x<2^i):Wd.uw x (y*2^i)=x+y*2^i:=by
 obtain⟨x,rfl⟩:=arI hx;obtain⟨y,rfl⟩:=arI hy;have e:(y:Int)*2^i=((y*2^i:Nat):Int):=aq;have h':x<2^i:=by
  have:((2:Int) ^ i)=((2^i:Nat):Int):=aq;rw[this]at h;omega
 rw[e];unfold Wd.uw;rw[arS,arS,atQ,Dc.kC _ _ _ h'];omega
theorem Pw (x y):Wd.uw x y=Wd.uw y x:=by unfold Wd.uw;rw[atQ]
theorem aa3 (x y)(i)(hx:0<=x)(hy:0<=y)(h:x<2^i):Wd.uw (y*2^i) x=y*2^i+x:=by rw[Pw,Fw x y i hx hy h];omega
theorem KJ (a at' n)(w)(ha:0<=a)(ha':a<4294967296)(h1:0<=at')(h2:at'<=31)(h3:0<=n)(h4:n<=31):Calls prog 63 #[int .u32 a,int i64 at',int i64 n] w fun e w'=>e=returned (int .u32 (a/2^at'.toNat%2^n.toNat))/\∃m,w'=w.drewN m:=by
 go_enter func63,ntmps63;go_wp2;refine awV al al ?_;iterate 8 go_big_quiet_step (fail)
 refine axa ?_;intro _ h;obtain⟨nq,h2⟩:=h;subst h2;go_wp2;go_ret;refine⟨av (Pv _ _ (atO ha (Int.pow_nonneg ab)) ?_ ab),_,rfl⟩;exact Int.lt_of_le_of_lt (Int.ediv_le_self _ ha) ha'
theorem mX (a at' n r)(w)(ha:0<=a)(ha':a<4294967296)(h1:0<=at')(h2:at'<=31)(h3:0<=n)(h4:n<=31)(hr:a/2^at'.toNat%2^n.toNat=r):Calls prog 63 #[int .u32 a,int i64 at',int i64 n] w fun e w'=>e=returned (int .u32 r)/\∃m,w'=w.drewN m:=hr ▸ KJ a at' n w ha ha' h1 h2 h3 h4
theorem VM (low m u)(h1:0<=low)(h2:low<4096)(h3:0<=m)(h4:m<8)(h5:0<=u)(h6:u<128):bits .or .u32 (bits .or .u32 low (m*4096)) (u*33554432)=low+m*4096+u*33554432:=by rw[show m*4096=m*2^12 by omega,show u*33554432=u*2^25 by omega];rw[dx low _ h1 ab ab ab,Fw low m 12 h1 h3 ab];rw[dx _ _ ab ab ab ab,Fw _ u 25 ab h5 ab]
theorem iW (op first low:Int)(b)(ms)(w)(T:oV w)(hm:∀i n,ms[i]?=some n→w.cell? ⟨b,i,none⟩=some (int .u32 n))(hms:∀n∈ms,0≤n∧n<8)(h1:first<=op)(h2:op-first<ms.length)(h3:0<=op)(h4:op<60)(h5:0<=low)(h6:low<128)(h7 : -1<=first)(h8:ms.length<=20):Calls prog 60 #[int i64 op,int i64 first,int .u32 low,.slice (some ⟨b,0,none⟩) ms.length ms.length] w fun e w'=>e=returned (int .u32 (Dc.rowOf op first low ms))/\Gr w w':=by
 obtain⟨m,hm1⟩:∃m,ms[(op-first).toNat]?=some m:=⟨_,arq ab⟩;have hl:Dc.uppers.length=60:=an;obtain⟨u,hu1⟩:∃u,Dc.uppers[op.toNat]?=some u:=⟨_,arq ab⟩;have hmb:=hms m (arE hm1);have hub:0<=u/\u<128:=by
  have:∀u∈Dc.uppers,0<=u/\u<128:=an;exact this u (arE hu1)
 have c1:=hm _ _ hm1;have c2:=T.uppers _ _ hu1;have E:Hid (Dc.rowOf op first low ms=low+m*4096+u*33554432):=by
  show _=_
  unfold Dc.rowOf Dc.nth;rw[List.getD,hm1,List.getD,hu1];rfl
 go_enter func60,ntmps60;go_wp2;refine awV al al ?_;iterate 15 go_big_quiet_step (fail)
 refine axa ?_;intro _ h;obtain⟨nq,h2⟩:=h;subst h2;go_wp2;go_ret;rw[E.out];exact⟨av (VM low m u h5 ab hmb.1 hmb.2 hub.1 hub.2),(Gr.refl w).drewN _⟩
theorem aG (a b c)(w)(h:b<=a/\a<=c):Calls prog 61 #[int i64 a,int i64 b,int i64 c] w fun e w'=>e=returned (.bool true)/\w'=w:=by refine(aH a b c w).mono ?_;rintro e w' ⟨rfl,rfl⟩;exact⟨aR (by simp[h]),rfl⟩
theorem ai (a b c)(w)(h:¬(b<=a/\a<=c)):Calls prog 61 #[int i64 a,int i64 b,int i64 c] w fun e w'=>e=returned (.bool false)/\w'=w:=by refine(aH a b c w).mono ?_;rintro e w' ⟨rfl,rfl⟩;exact⟨aR (by rw[<-Bool.decide_and];simpa using h),rfl⟩
theorem dY (w:World)(ms:List Int)(t):∀i n,ms[i]?=some n->(w.alloc (.cells (ms.map (Value.int .u32)).toArray t)).cell? ⟨w.heap.size,i,none⟩=some (int .u32 n):=by intro i n h;rw[World.cell?_alloc_new];simp[h]
def Told (op:Int):Prop:=∀w:World,oV w->Calls prog 27 #[int i64 op] w fun e w'=>e=returned (tuple #[int i64 (Dc.aM op),int .u32 (Dc.bP op)])/\Gr w w'
theorem iX {c d}(h:a=c)(h':b=d):Ending.returned (tuple #[int i64 a,int .u32 b])=returned (tuple #[int i64 c,int .u32 d]):=by rw[h,h']
theorem aa4 (op)(h1:4<=op)(h2:op<=4):Told op:=by
 intro w T;have F:Hid (Dc.aM op=3):=by
  show _=_
  unfold Dc.aM;repeat (first|rw[eB]|rw[ak])
 have B:Hid (Dc.bP op=Dc.rowOf op 4 103 [0]):=by
  show _=_
  unfold Dc.bP;repeat (first|rw[eB]|rw[ak])
 have e1:(op ==1)=false:=by simp;omega
 have e2:(op ==2)=false:=by simp;omega
 have e3:(op ==3)=false:=by simp;omega
 have e4:(op ==4)=true:=by simp;omega
 have e57:(op ==57)=false:=by simp;omega
 have e58:(op ==58)=false:=by simp;omega
 have e59:(op ==59)=false:=by simp;omega
 go_enter func27,ntmps27;go_wp2_with (go_at_call 60;refine(iW _ _ _ _ [0] _ (T.of ((Gr.refl _).alloc _ _)) (dY _ [0] _) an ab (by simp<;>omega) ab ab ab ab ab an).mono ?_;rintro e w' ⟨rfl,g⟩);go_ret2;exact⟨iX F.symm B.symm,((Gr.refl _).alloc _ _).trans g⟩
theorem aa5 (op)(h1:5<=op)(h2:op<=10):Told op:=by
 intro w T;have F:Hid (Dc.aM op=5):=by
  show _=_
  unfold Dc.aM;repeat (first|rw[eB]|rw[ak])
 have B:Hid (Dc.bP op=Dc.rowOf op 5 99 [0,1,4,5,6,7]):=by
  show _=_
  unfold Dc.bP;repeat (first|rw[eB]|rw[ak])
 have e1:(op ==1)=false:=by simp;omega
 have e2:(op ==2)=false:=by simp;omega
 have e3:(op ==3)=false:=by simp;omega
 have e4:(op ==4)=false:=by simp;omega
 have e57:(op ==57)=false:=by simp;omega
 have e58:(op ==58)=false:=by simp;omega
 have e59:(op ==59)=false:=by simp;omega
 go_enter func27,ntmps27;go_wp2_with (first|(go_at_call 61;first|(refine(aG _ _ _ _ ab).mono ?_;rintro e w' ⟨rfl,rfl⟩)|(refine(ai _ _ _ _ ab).mono ?_;rintro e w' ⟨rfl,rfl⟩))|(go_at_call 60;refine(iW _ _ _ _ [0,1,4,5,6,7] _ (T.of ((Gr.refl _).alloc _ _)) (dY _ [0,1,4,5,6,7] _) an ab (by simp<;>omega) ab ab ab ab ab an).mono ?_;rintro e w' ⟨rfl,g⟩));go_ret2;exact⟨iX F.symm B.symm,((Gr.refl _).alloc _ _).trans g⟩
theorem VN (op)(h1:11<=op)(h2:op<=15):Told op:=by
 intro w T;have F:Hid (Dc.aM op=3):=by
  show _=_
  unfold Dc.aM;repeat (first|rw[eB]|rw[ak])
 have B:Hid (Dc.bP op=Dc.rowOf op 11 3 [0,1,2,4,5]):=by
  show _=_
  unfold Dc.bP;repeat (first|rw[eB]|rw[ak])
 have e1:(op ==1)=false:=by simp;omega
 have e2:(op ==2)=false:=by simp;omega
 have e3:(op ==3)=false:=by simp;omega
 have e4:(op ==4)=false:=by simp;omega
 have e57:(op ==57)=false:=by simp;omega
 have e58:(op ==58)=false:=by simp;omega
 have e59:(op ==59)=false:=by simp;omega
 go_enter func27,ntmps27;go_wp2_with (first|(go_at_call 61;first|(refine(aG _ _ _ _ ab).mono ?_;rintro e w' ⟨rfl,rfl⟩)|(refine(ai _ _ _ _ ab).mono ?_;rintro e w' ⟨rfl,rfl⟩))|(go_at_call 60;refine(iW _ _ _ _ [0,1,2,4,5] _ (T.of ((Gr.refl _).alloc _ _)) (dY _ [0,1,2,4,5] _) an ab (by simp<;>omega) ab ab ab ab ab an).mono ?_;rintro e w' ⟨rfl,g⟩));go_ret2;exact⟨iX F.symm B.symm,((Gr.refl _).alloc _ _).trans g⟩
theorem VO (op)(h1:16<=op)(h2:op<=18):Told op:=by
 intro w T;have F:Hid (Dc.aM op=6):=by
  show _=_
  unfold Dc.aM;repeat (first|rw[eB]|rw[ak])
 have B:Hid (Dc.bP op=Dc.rowOf op 16 35 [0,1,2]):=by
  show _=_
  unfold Dc.bP;repeat (first|rw[eB]|rw[ak])
 have e1:(op ==1)=false:=by simp;omega
 have e2:(op ==2)=false:=by simp;omega
 have e3:(op ==3)=false:=by simp;omega
 have e4:(op ==4)=false:=by simp;omega
 have e57:(op ==57)=false:=by simp;omega
 have e58:(op ==58)=false:=by simp;omega
 have e59:(op ==59)=false:=by simp;omega
 go_enter func27,ntmps27;go_wp2_with (first|(go_at_call 61;first|(refine(aG _ _ _ _ ab).mono ?_;rintro e w' ⟨rfl,rfl⟩)|(refine(ai _ _ _ _ ab).mono ?_;rintro e w' ⟨rfl,rfl⟩))|(go_at_call 60;refine(iW _ _ _ _ [0,1,2] _ (T.of ((Gr.refl _).alloc _ _)) (dY _ [0,1,2] _) an ab (by simp<;>omega) ab ab ab ab ab an).mono ?_;rintro e w' ⟨rfl,g⟩));go_ret2;exact⟨iX F.symm B.symm,((Gr.refl _).alloc _ _).trans g⟩
theorem VQ (op)(h1:19<=op)(h2:op<=24):Told op:=by
 intro w T;have F:Hid (Dc.aM op=3):=by
  show _=_
  unfold Dc.aM;repeat (first|rw[eB]|rw[ak])
 have B:Hid (Dc.bP op=Dc.rowOf op 19 19 [0,2,3,4,6,7]):=by
  show _=_
  unfold Dc.bP;repeat (first|rw[eB]|rw[ak])
 have e1:(op ==1)=false:=by simp;omega
 have e2:(op ==2)=false:=by simp;omega
 have e3:(op ==3)=false:=by simp;omega
 have e4:(op ==4)=false:=by simp;omega
 have e57:(op ==57)=false:=by simp;omega
 have e58:(op ==58)=false:=by simp;omega
 have e59:(op ==59)=false:=by simp;omega
 go_enter func27,ntmps27;go_wp2_with (first|(go_at_call 61;first|(refine(aG _ _ _ _ ab).mono ?_;rintro e w' ⟨rfl,rfl⟩)|(refine(ai _ _ _ _ ab).mono ?_;rintro e w' ⟨rfl,rfl⟩))|(go_at_call 60;refine(iW _ _ _ _ [0,2,3,4,6,7] _ (T.of ((Gr.refl _).alloc _ _)) (dY _ [0,2,3,4,6,7] _) an ab (by simp<;>omega) ab ab ab ab ab an).mono ?_;rintro e w' ⟨rfl,g⟩));go_ret2;exact⟨iX F.symm B.symm,((Gr.refl _).alloc _ _).trans g⟩
theorem VR (op)(h1:25<=op)(h2:op<=27):Told op:=by
 intro w T;have F:Hid (Dc.aM op=4):=by
  show _=_
  unfold Dc.aM;repeat (first|rw[eB]|rw[ak])
 have B:Hid (Dc.bP op=Dc.rowOf op 25 19 [1,5,5]):=by
  show _=_
  unfold Dc.bP;repeat (first|rw[eB]|rw[ak])
 have e1:(op ==1)=false:=by simp;omega
 have e2:(op ==2)=false:=by simp;omega
 have e3:(op ==3)=false:=by simp;omega
 have e4:(op ==4)=false:=by simp;omega
 have e57:(op ==57)=false:=by simp;omega
 have e58:(op ==58)=false:=by simp;omega
 have e59:(op ==59)=false:=by simp;omega
 go_enter func27,ntmps27;go_wp2_with (first|(go_at_call 61;first|(refine(aG _ _ _ _ ab).mono ?_;rintro e w' ⟨rfl,rfl⟩)|(refine(ai _ _ _ _ ab).mono ?_;rintro e w' ⟨rfl,rfl⟩))|(go_at_call 60;refine(iW _ _ _ _ [1,5,5] _ (T.of ((Gr.refl _).alloc _ _)) (dY _ [1,5,5] _) an ab (by simp<;>omega) ab ab ab ab ab an).mono ?_;rintro e w' ⟨rfl,g⟩));go_ret2;exact⟨iX F.symm B.symm,((Gr.refl _).alloc _ _).trans g⟩
theorem VS (op)(h1:28<=op)(h2:op<=37):Told op:=by
 intro w T;have F:Hid (Dc.aM op=7):=by
  show _=_
  unfold Dc.aM;repeat (first|rw[eB]|rw[ak])
 have B:Hid (Dc.bP op=Dc.rowOf op 28 51 [0,0,1,2,3,4,5,5,6,7]):=by
  show _=_
  unfold Dc.bP;repeat (first|rw[eB]|rw[ak])
 have e1:(op ==1)=false:=by simp;omega
 have e2:(op ==2)=false:=by simp;omega
 have e3:(op ==3)=false:=by simp;omega
 have e4:(op ==4)=false:=by simp;omega
 have e57:(op ==57)=false:=by simp;omega
 have e58:(op ==58)=false:=by simp;omega
 have e59:(op ==59)=false:=by simp;omega
 go_enter func27,ntmps27;go_wp2_with (first|(go_at_call 61;first|(refine(aG _ _ _ _ ab).mono ?_;rintro e w' ⟨rfl,rfl⟩)|(refine(ai _ _ _ _ ab).mono ?_;rintro e w' ⟨rfl,rfl⟩))|(go_at_call 60;refine(iW _ _ _ _ [0,0,1,2,3,4,5,5,6,7] _ (T.of ((Gr.refl _).alloc _ _)) (dY _ [0,0,1,2,3,4,5,5,6,7] _) an ab (by simp<;>omega) ab ab ab ab ab an).mono ?_;rintro e w' ⟨rfl,g⟩));go_ret2;exact⟨iX F.symm B.symm,((Gr.refl _).alloc _ _).trans g⟩
theorem VT (op)(h1:38<=op)(h2:op<=45):Told op:=by
 intro w T;have F:Hid (Dc.aM op=7):=by
  show _=_
  unfold Dc.aM;repeat (first|rw[eB]|rw[ak])
 have B:Hid (Dc.bP op=Dc.rowOf op 38 51 [0,1,2,3,4,5,6,7]):=by
  show _=_
  unfold Dc.bP;repeat (first|rw[eB]|rw[ak])
 have e1:(op ==1)=false:=by simp;omega
 have e2:(op ==2)=false:=by simp;omega
 have e3:(op ==3)=false:=by simp;omega
 have e4:(op ==4)=false:=by simp;omega
 have e57:(op ==57)=false:=by simp;omega
 have e58:(op ==58)=false:=by simp;omega
 have e59:(op ==59)=false:=by simp;omega
 go_enter func27,ntmps27;go_wp2_with (first|(go_at_call 61;first|(refine(aG _ _ _ _ ab).mono ?_;rintro e w' ⟨rfl,rfl⟩)|(refine(ai _ _ _ _ ab).mono ?_;rintro e w' ⟨rfl,rfl⟩))|(go_at_call 60;refine(iW _ _ _ _ [0,1,2,3,4,5,6,7] _ (T.of ((Gr.refl _).alloc _ _)) (dY _ [0,1,2,3,4,5,6,7] _) an ab (by simp<;>omega) ab ab ab ab ab an).mono ?_;rintro e w' ⟨rfl,g⟩));go_ret2;exact⟨iX F.symm B.symm,((Gr.refl _).alloc _ _).trans g⟩
theorem VU (op)(h1:46<=op)(h2:op<=56):Told op:=by
 intro w T;have F:Hid (Dc.aM op=8):=by
  show _=_
  unfold Dc.aM;repeat (first|rw[eB]|rw[ak])
 have B:Hid (Dc.bP op=Dc.rowOf op op 47 [2]):=by
  show _=_
  unfold Dc.bP;repeat (first|rw[eB]|rw[ak])
 have e1:(op ==1)=false:=by simp;omega
 have e2:(op ==2)=false:=by simp;omega
 have e3:(op ==3)=false:=by simp;omega
 have e4:(op ==4)=false:=by simp;omega
 have e57:(op ==57)=false:=by simp;omega
 have e58:(op ==58)=false:=by simp;omega
 have e59:(op ==59)=false:=by simp;omega
 go_enter func27,ntmps27;go_wp2_with (first|(go_at_call 61;first|(refine(aG _ _ _ _ ab).mono ?_;rintro e w' ⟨rfl,rfl⟩)|(refine(ai _ _ _ _ ab).mono ?_;rintro e w' ⟨rfl,rfl⟩))|(go_at_call 60;refine(iW _ _ _ _ [2] _ (T.of ((Gr.refl _).alloc _ _)) (dY _ [2] _) an ab (by simp<;>omega) ab ab ab ab ab an).mono ?_;rintro e w' ⟨rfl,g⟩));go_ret2;exact⟨iX F.symm B.symm,((Gr.refl _).alloc _ _).trans g⟩
theorem VW:Told 57:=by intro w T;go_enter func27,ntmps27;go_wp2_with (first|(go_at_call 61;first|(refine(aG _ _ _ _ ab).mono ?_;rintro e w' ⟨rfl,rfl⟩)|(refine(ai _ _ _ _ ab).mono ?_;rintro e w' ⟨rfl,rfl⟩))|(go_at_call 60;refine(iW 57 57 15 _ [0] _ (T.of ((Gr.refl _).alloc _ _)) (dY _ [0] _) an ab (by simp<;>omega) ab ab ab ab ab an).mono ?_;rintro e w' ⟨rfl,g⟩));go_ret2;exact⟨rfl,((Gr.refl _).alloc _ _).trans g⟩
theorem aa6:Told 1:=by intro w T;go_enter func27,ntmps27;go_wp2_with fail;go_ret2;exact⟨rfl,Gr.refl _⟩
theorem aa7:Told 2:=by intro w T;go_enter func27,ntmps27;go_wp2_with fail;go_ret2;exact⟨rfl,Gr.refl _⟩
theorem aa8:Told 3:=by intro w T;go_enter func27,ntmps27;go_wp2_with fail;go_ret2;exact⟨rfl,Gr.refl _⟩
theorem VX:Told 58:=by intro w T;go_enter func27,ntmps27;go_wp2_with (go_at_call 61;(refine(ai _ _ _ _ ab).mono ?_;rintro e w' ⟨rfl,rfl⟩));go_ret2;exact⟨rfl,Gr.refl _⟩
theorem VY:Told 59:=by intro w T;go_enter func27,ntmps27;go_wp2_with (go_at_call 61;(refine(ai _ _ _ _ ab).mono ?_;rintro e w' ⟨rfl,rfl⟩));go_ret2;exact⟨rfl,Gr.refl _⟩
theorem told_none (op)(h:op<1\/59<op):Told op:=by
 intro w T;have F:Hid (Dc.aM op=0):=by
  show _=_
  unfold Dc.aM;repeat (first|rw[eB]|rw[ak])
 have B:Hid (Dc.bP op=0):=by
  show _=_
  unfold Dc.bP;repeat (first|rw[ak])
 have e1:(op ==1)=false:=by simp;omega
 have e2:(op ==2)=false:=by simp;omega
 have e3:(op ==3)=false:=by simp;omega
 have e4:(op ==4)=false:=by simp;omega
 have e57:(op ==57)=false:=by simp;omega
 have e58:(op ==58)=false:=by simp;omega
 have e59:(op ==59)=false:=by simp;omega
 go_enter func27,ntmps27;go_wp2_with (go_at_call 61;(refine(ai _ _ _ _ ab).mono ?_;rintro e w' ⟨rfl,rfl⟩));go_ret2;exact⟨iX F.symm B.symm,Gr.refl _⟩
theorem qN (op):Told op:=by
 by_cases h0:op<1\/59<op
 ·exact told_none op h0
 by_cases e1:op=1
 ·subst e1;exact aa6
 by_cases e2:op=2
 ·subst e2;exact aa7
 by_cases e3:op=3
 ·subst e3;exact aa8
 by_cases e58:op=58
 ·subst e58;exact VX
 by_cases e59:op=59
 ·subst e59;exact VY
 by_cases h4:op<=4
 ·exact aa4 op ab h4
 by_cases h5:op<=10
 ·exact aa5 op ab h5
 by_cases h11:op<=15
 ·exact VN op ab h11
 by_cases h16:op<=18
 ·exact VO op ab h16
 by_cases h19:op<=24
 ·exact VQ op ab h19
 by_cases h25:op<=27
 ·exact VR op ab h25
 by_cases h28:op<=37
 ·exact VS op ab h28
 by_cases h38:op<=45
 ·exact VT op ab h38
 by_cases h46:op<=56
 ·exact VU op ab h46
 obtain rfl:op=57:=ab;exact VW
theorem Px (a)(w)(h0:0<=a)(h1:a<4294967296):Calls prog 26 #[int .u32 a] w fun e w'=>e=returned (tuple #[int i64 (Dc.sp1 (a%128)),int i64 (Dc.sp2 (a%128))])/\w'=w:=by
 have B:=(fD a 127 h0 h1 ab ab).trans (Dc.Y4 h0 h1);by_cases e55:a%128=55
 ·have b55:(a%128 ==55)=true:=by simp[e55]
  have S1:Hid (Dc.sp1 (a%128)=1):=by show _=_;rw[e55];rfl
  have S2:Hid (Dc.sp2 (a%128)=1):=by show _=_;rw[e55];rfl
  go_enter func26,ntmps26;go_wp2;go_ret2;rw[S1.out,S2.out];exact⟨rfl,rfl⟩
 have b55:(a%128 ==55)=false:=by simp[e55]
 by_cases e23:a%128=23
 ·have b23:(a%128 ==23)=true:=by simp[e23]
  have S1:Hid (Dc.sp1 (a%128)=2):=by show _=_;rw[e23];rfl
  have S2:Hid (Dc.sp2 (a%128)=2):=by show _=_;rw[e23];rfl
  go_enter func26,ntmps26;go_wp2;go_ret2;rw[S1.out,S2.out];exact⟨rfl,rfl⟩
 have b23:(a%128 ==23)=false:=by simp[e23]
 by_cases KN:a%128=111
 ·have aiG:(a%128 ==111)=true:=by simp[KN]
  have S1:Hid (Dc.sp1 (a%128)=3):=by show _=_;rw[KN];rfl
  have S2:Hid (Dc.sp2 (a%128)=3):=by show _=_;rw[KN];rfl
  go_enter func26,ntmps26;go_wp2;go_ret2;rw[S1.out,S2.out];exact⟨rfl,rfl⟩
 have aiG:(a%128 ==111)=false:=by simp[KN]
 by_cases KS:a%128=103
 ·have aiH:(a%128 ==103)=true:=by simp[KS]
  have S1:Hid (Dc.sp1 (a%128)=4):=by show _=_;rw[KS];rfl
  have S2:Hid (Dc.sp2 (a%128)=4):=by show _=_;rw[KS];rfl
  go_enter func26,ntmps26;go_wp2;go_ret2;rw[S1.out,S2.out];exact⟨rfl,rfl⟩
 have aiH:(a%128 ==103)=false:=by simp[KS]
 by_cases e99:a%128=99
 ·have b99:(a%128 ==99)=true:=by simp[e99]
  have S1:Hid (Dc.sp1 (a%128)=5):=by show _=_;rw[e99];rfl
  have S2:Hid (Dc.sp2 (a%128)=10):=by show _=_;rw[e99];rfl
  go_enter func26,ntmps26;go_wp2;go_ret2;rw[S1.out,S2.out];exact⟨rfl,rfl⟩
 have b99:(a%128 ==99)=false:=by simp[e99]
 by_cases e3:a%128=3
 ·have b3:(a%128 ==3)=true:=by simp[e3]
  have S1:Hid (Dc.sp1 (a%128)=11):=by show _=_;rw[e3];rfl
  have S2:Hid (Dc.sp2 (a%128)=15):=by show _=_;rw[e3];rfl
  go_enter func26,ntmps26;go_wp2;go_ret2;rw[S1.out,S2.out];exact⟨rfl,rfl⟩
 have b3:(a%128 ==3)=false:=by simp[e3]
 by_cases e35:a%128=35
 ·have b35:(a%128 ==35)=true:=by simp[e35]
  have S1:Hid (Dc.sp1 (a%128)=16):=by show _=_;rw[e35];rfl
  have S2:Hid (Dc.sp2 (a%128)=18):=by show _=_;rw[e35];rfl
  go_enter func26,ntmps26;go_wp2;go_ret2;rw[S1.out,S2.out];exact⟨rfl,rfl⟩
 have b35:(a%128 ==35)=false:=by simp[e35]
 by_cases e19:a%128=19
 ·have b19:(a%128 ==19)=true:=by simp[e19]
  have S1:Hid (Dc.sp1 (a%128)=19):=by show _=_;rw[e19];rfl
  have S2:Hid (Dc.sp2 (a%128)=27):=by show _=_;rw[e19];rfl
  go_enter func26,ntmps26;go_wp2;go_ret2;rw[S1.out,S2.out];exact⟨rfl,rfl⟩
 have b19:(a%128 ==19)=false:=by simp[e19]
 by_cases e51:a%128=51
 ·have b51:(a%128 ==51)=true:=by simp[e51]
  have S1:Hid (Dc.sp1 (a%128)=28):=by show _=_;rw[e51];rfl
  have S2:Hid (Dc.sp2 (a%128)=45):=by show _=_;rw[e51];rfl
  go_enter func26,ntmps26;go_wp2;go_ret2;rw[S1.out,S2.out];exact⟨rfl,rfl⟩
 have b51:(a%128 ==51)=false:=by simp[e51]
 by_cases e47:a%128=47
 ·have b47:(a%128 ==47)=true:=by simp[e47]
  have S1:Hid (Dc.sp1 (a%128)=46):=by show _=_;rw[e47];rfl
  have S2:Hid (Dc.sp2 (a%128)=56):=by show _=_;rw[e47];rfl
  go_enter func26,ntmps26;go_wp2;go_ret2;rw[S1.out,S2.out];exact⟨rfl,rfl⟩
 have b47:(a%128 ==47)=false:=by simp[e47]
 by_cases e15:a%128=15
 ·have b15:(a%128 ==15)=true:=by simp[e15]
  have S1:Hid (Dc.sp1 (a%128)=57):=by show _=_;rw[e15];rfl
  have S2:Hid (Dc.sp2 (a%128)=57):=by show _=_;rw[e15];rfl
  go_enter func26,ntmps26;go_wp2;go_ret2;rw[S1.out,S2.out];exact⟨rfl,rfl⟩
 have b15:(a%128 ==15)=false:=by simp[e15]
 by_cases e115:a%128=115
 ·have aiI:(a%128 ==115)=true:=by simp[e115]
  have S1:Hid (Dc.sp1 (a%128)=58):=by show _=_;rw[e115];rfl
  have S2:Hid (Dc.sp2 (a%128)=59):=by show _=_;rw[e115];rfl
  go_enter func26,ntmps26;go_wp2;go_ret2;rw[S1.out,S2.out];exact⟨rfl,rfl⟩
 have aiI:(a%128 ==115)=false:=by simp[e115]
 have S1:Hid (Dc.sp1 (a%128)=0):=by show _=_;unfold Dc.sp1;simp[e55,e23,KN,KS,e99,e3,e35,e19,e51,e47,e15,e115]
 have S2:Hid (Dc.sp2 (a%128) = -1):=by show _=_;unfold Dc.sp2;simp[e55,e23,KN,KS,e99,e3,e35,e19,e51,e47,e15,e115]
 go_enter func26,ntmps26;go_wp2;go_ret2;rw[S1.out,S2.out];exact⟨rfl,rfl⟩
end Dw
namespace Dw
variable{u s:Int}{p:Nat->Int×Int×Int}
theorem aa9 (n x)(i)(h0:0<=n)(hx:0<=x)(hm:n%2^i=0)(hl:x<2^i)(hb:n+x<4294967296):bits .or .u32 n x=n+x:=by
 rw[dx n x h0 ab hx ab];have e:n=n/2^i*2^i:=by
  have:=Int.mul_ediv_add_emod n (2^i);rw[hm,Int.mul_comm]at this;omega
 have hn:0<=n/2^i:=atO h0 (Int.pow_nonneg ab);have:=aa3 x (n/2^i) i hx hn hl;rwa[<-e]at this
theorem ae2 (a)(h0:0<=a)(h1:a<4294967296):0=Dc.bU 0 a:=rfl
theorem ae3 (a)(h0:0<=a)(h1:a<4294967296):wrap32 (a/4096*4096)=Dc.bU 1 a:=by
 show _=Wd.sg a-a%4096
 unfold wrap32 Wd.sg;split<;>omega
theorem ae4 (a)(h0:0<=a)(h1:a<4294967296):wrap32 ((a/2147483648*1048576+a/4096%256*4096+a/1048576%2*2048+a/2097152%1024*2)*2048)/2048=Dc.bU 2 a:=by
 show _=Dc.jE 1048576 (a/2147483648*1048576+a/4096%256*4096+a/1048576%2*2048+a/2097152%1024*2)
 unfold wrap32 Dc.jE;split<;>omega
theorem ae5 (a)(h0:0<=a)(h1:a<4294967296):wrap32 (a/1048576*1048576)/1048576=Dc.bU 3 a:=by
 show _=Dc.jE 2048 (a/1048576)
 unfold wrap32 Dc.jE;split<;>omega
theorem ae6 (a)(h0:0<=a)(h1:a<4294967296):a/1048576%32=Dc.bU 4 a:=rfl
theorem ae7 (a)(h0:0<=a)(h1:a<4294967296):wrap32 ((a/2147483648*4096+a/128%2*2048+a/33554432%64*32+a/256%16*2)*524288)/524288=Dc.bU 5 a:=by
 show _=Dc.jE 4096 (a/2147483648*4096+a/128%2*2048+a/33554432%64*32+a/256%16*2)
 unfold wrap32 Dc.jE;split<;>omega
theorem ae8 (a)(h0:0<=a)(h1:a<4294967296):wrap32 ((a/33554432*32+a/128%32)*1048576)/1048576=Dc.bU 6 a:=by
 show _=Dc.jE 2048 (a/33554432*32+a/128%32)
 unfold wrap32 Dc.jE;split<;>omega
theorem ae9 (a)(h0:0<=a)(h1:a<4294967296):0=Dc.bU 7 a:=rfl
theorem afa (a)(h0:0<=a)(h1:a<4294967296):a/33554432%4=Dc.bU 8 a:=rfl
theorem afb (a)(h0:0<=a)(h1:a<4294967296):0=Dc.bU 9 a:=rfl
theorem sF (a b c):Wd.uw (Wd.uw a b) c=Wd.uw a (Wd.uw b c):=by unfold Wd.uw;rw[arS,arS,Nat.or_assoc]
theorem VZ (n y i c)(hz:n/2^i%2^c=0)(hy:y<2^c):n |||y*2^i=n+y*2^i:=by
 have e1:n=n/2 ^ (i+c)*2 ^ (i+c)+n%2^i:=by
  have a1:=atM n (2^i);have a2:=atM (n/2^i) (2^c);rw[Nat.div_div_eq_div_mul,<-Nat.pow_add,hz,asK]at a2;rw[<-a2,<-Nat.mul_assoc,<-Nat.pow_add,asO]at a1;exact a1.symm
 have hl:n%2^i<2^i:=Nat.mod_lt _ (ato _);generalize n%2^i=l at *
 generalize n/2 ^ (i+c)=h at *
 have hx:y*2^i+l<2 ^ (i+c):=by
  have:(y+1)*2^i<=2^c*2^i:=asN _ hy;rw[Nat.add_mul,Nat.one_mul]at this;rw[Nat.pow_add,asO (2^i)];omega
 have hl':l<2 ^ (i+c):=ab;rw[e1,<-Dc.kC l h (i+c) hl',Nat.or_assoc,atQ l,Dc.kC l y i hl,Dc.kC _ h (i+c) hx,Dc.kC l h (i+c) hl'];omega
theorem jI (n y)(i c)(h0:0<=n)(hy:0<=y)(hz:n/2^i%2^c=0)(hl:y<2^c):Wd.uw n (y*2^i)=n+y*2^i:=by
 obtain⟨n,rfl⟩:=arI h0;obtain⟨y,rfl⟩:=arI hy;have p1:((2:Int) ^ i)=((2^i:Nat):Int):=aq;have p2:((2:Int) ^ c)=((2^c:Nat):Int):=aq;rw[p1,p2]at hz;rw[p2]at hl;have hz':n/2^i%2^c=0:=by exact_mod_cast hz
 have:=VZ n y i c hz' ab;rw[p1];unfold Wd.uw;rw[show(y:Int)*((2^i:Nat):Int)=((y*2^i:Nat):Int)by simp,arS,arS,this];omega
theorem pU (n y)(i c)(h0:0<=n)(hy:0<=y)(hz:n/2^i%2^c=0)(hl:y<2^c)(hb:n<4294967296)(hx:y*2^i<4294967296)(hx0:0<=y*2^i):bits .or .u32 n (y*2^i)=n+y*2^i:=by rw[dx n _ h0 hb hx0 hx];exact jI n y i c h0 hy hz hl
theorem z_2 (x y z:Int)(a1:0<=x)(a2:x<2)(b1:0<=y)(b2:y<256)(c1:0<=z)(c2:z<2):(x*2147483648+y*4096+z*1048576)/2^21%2^10=0:=by
 have:(x*2147483648+y*4096+z*1048576)/2^21=x*1024:=ab;rw[this];omega
theorem z_5 (x y z:Int)(a1:0<=x)(a2:x<2)(b1:0<=y)(b2:y<2)(c1:0<=z)(c2:z<64):(x*2147483648+y*128+z*33554432)/2^8%2^4=0:=by
 have:(x*2147483648+y*128+z*33554432)/2^8=x*8388608+z*131072:=ab;rw[this];omega
def iY (f:Int):Prop:=∀(a:Int) (w:World),oV w->0<=a->a<4294967296->Calls prog 62 #[int i64 f,int .u32 a] w fun e w'=>e=returned (int .i32 (Dc.bU f a))/\Gr w w'
def mJ (u:Int) (p:Nat→Int×Int×Int):Nat→Int
 |0=>0
 |j+1=>bits .or .u32 (mJ u p j) (u/2 ^ (p j).1.toNat%2 ^ (p j).2.1.toNat*2 ^ (p j).2.2.toNat%4294967296)
theorem aC (h:mJ u p j=s)(hs:0<=s/\s<4294967296)(hc:(p j).2.1=0):mJ u p (j+1)=s:=by
 rw[mJ,h,hc];have e:u/2 ^ (p j).1.toNat%2 ^ (0:Int).toNat*2 ^ (p j).2.2.toNat%4294967296=0*2^0:=by
  rw[show(2:Int) ^ (0:Int).toNat=1 from rfl,Int.emod_one,Int.zero_mul];rfl
 rw[e,pU s 0 0 0 hs.1 ab ab ab hs.2 ab ab];omega
theorem bG (h:mJ u p j=s)(b c a:Nat)(hp:p j=((b:Int),(c:Int),(a:Int)))(hs:0<=s/\s<4294967296)(hz:s/2^a%2^c=0)(hc:(2:Int) ^ c*2^a<=4294967296)(h2:(0:Int)<2^a)(h3:(0:Int)<2^c):mJ u p (j+1)=s+u/2^b%2^c*2^a:=by
 rw[mJ,h,hp];simp only[arS];have y0:0<=u/2^b%2^c:=Int.emod_nonneg _ ab;have y1:u/2^b%2^c<2^c:=Int.emod_lt_of_pos _ h3;generalize u/2^b%2^c=y at *
 have y2:0<=y*2^a:=Int.mul_nonneg y0 ab;have y3:y*2^a<4294967296:=Int.lt_of_lt_of_le (Int.mul_lt_mul_of_pos_right y1 h2) hc;rw[asH y2 y3,pU s y a c hs.1 y0 hz y1 hs.2 y3 y2]
def twelve (q:Nat->Int):Array Value:=#[int i64 (q 0),int i64 (q 1),int i64 (q 2),int i64 (q 3),int i64 (q 4),int i64 (q 5),int i64 (q 6),int i64 (q 7),int i64 (q 8),int i64 (q 9),int i64 (q 10),int i64 (q 11)]
theorem Zj (q:Nat→Int)(w:World):∀j,j<4→(Instr.index 101 (.agg (twelve q)) (int i64 (j:Nat))).run prog w=.ok (.agg #[int i64 (q (3*j)),int i64 (q (3*j+1)),int i64 (q (3*j+2))]) w
 |0,_=>al
 |1,_=>al
 |2,_=>al
 |3,_=>al
 |j+4,h=>absurd h ab
def pV (k i:Nat):Int:=(pieces k).getD i 0
theorem aba (k)(hk:k<10)(i)(hi:i<12):shapes[k*17+4+i]?=some (int i64 (pV k i)):=by
 have hk':k=0\/k=1\/k=2\/k=3\/k=4\/k=5\/k=6\/k=7\/k=8\/k=9:=ab;have hi':i=0\/i=1\/i=2\/i=3\/i=4\/i=5\/i=6\/i=7\/i=8\/i=9\/i=10\/i=11:=ab;rcases hk' with rfl|rfl|rfl|rfl|rfl|rfl|rfl|rfl|rfl|rfl<;>rcases hi' with rfl|rfl|rfl|rfl|rfl|rfl|rfl|rfl|rfl|rfl|rfl|rfl<;>rfl
theorem Py (k)(hk:k<10):shapes[k*17+16]?=some (int i64 (spare k))/\0<=spare k/\spare k<=31:=by
 have hk':k=0\/k=1\/k=2\/k=3\/k=4\/k=5\/k=6\/k=7\/k=8\/k=9:=ab;rcases hk' with rfl|rfl|rfl|rfl|rfl|rfl|rfl|rfl|rfl|rfl<;>exact⟨rfl,an,an⟩
theorem Pz (k)(hk:k<10)(i):0<=pV k i/\pV k i<=31:=by
 have h:∀x∈pieces k,0<=x/\x<=31:=by
  have hk':k=0\/k=1\/k=2\/k=3\/k=4\/k=5\/k=6\/k=7\/k=8\/k=9:=ab;rcases hk' with rfl|rfl|rfl|rfl|rfl|rfl|rfl|rfl|rfl|rfl<;>decide
 unfold pV;rw[ar2];cases e:(pieces k)[i]? with
 |none=>simp
 |some x=>exact h x (arE e)
theorem IQ (hk:k<10)(T:oV w):w.rangeAt 0 (k*17+4) (twelve (pV k)).toList:=fun j v hv=>by
 have hj:j<12:=(arw.1 hv).1;have:(twelve (pV k)).toList[j]?=some (int i64 (pV k j)):=by
  have hj':j=0\/j=1\/j=2\/j=3\/j=4\/j=5\/j=6\/j=7\/j=8\/j=9\/j=10\/j=11:=ab;rcases hj' with rfl|rfl|rfl|rfl|rfl|rfl|rfl|rfl|rfl|rfl|rfl|rfl<;>rfl
 rw[this]at hv;injection hv with hv;rw[<-hv];exact T.shapes _ _ (aba k hk j hj)
theorem PD (x):wrap32 (x%4294967296)=wrap32 x:=by unfold wrap32;omega
def pR (k j:Nat):Int×Int×Int:=(pV k (3*j),pV k (3*j+2),pV k (3*j+1))
theorem kQ (hk:k<10)(a)(w)(T:oV w)(u0:0<=a)(u1:a<4294967296):Calls prog 62 #[int i64 k,int .u32 a] w fun e w'=>e=returned (int .i32 (wrap32 (mJ a (pR k) 4*2 ^ (spare k).toNat)/2 ^ (spare k).toNat))/\Gr w w':=by
 have HX:Hid (∀j,j<4->∀w:World,_):=fun j h w=>Zj (pV k) w j h
 have HR:=IQ hk T;have hsz:(prog.info? 101).map (·.size)=some (twelve (pV k)).toList.length:=al;have HT:=kH T;have hb:=Pz k hk;obtain⟨s1,s2,s3⟩:=Py k hk;have gH:=kH s1;have HP:Hid (∀j,mJ a (pR k) (j+1)=bits .or .u32 (mJ a (pR k) j) (a/2 ^ (pV k (3*j)).toNat%2 ^ (pV k (3*j+2)).toNat*2 ^ (pV k (3*j+1)).toNat%4294967296)):=fun j=>rfl
 generalize spare k=sp at *
 go_enter func62,ntmps62;go_wp2_with (refine awU rfl 101 _ rfl 0 (k*17+4) rfl (twelve (pV k)).toList _ HR underlying101 rfl hsz ?_);go_loopw [5,13] (fun s i wr=>Gr w wr/\∃j:Nat,j<=4/\i=int i64 j/\s=int .u32 (mJ a (pR k) j)) (fun _ i _=>4-(intOf i).toNat)
 case atStart=>exact⟨Gr.refl _,0,arQ _,rfl,rfl⟩
 case round=>
  obtain⟨g,j,hj,rfl,rfl⟩:=hrel;by_cases hlt:j<4
  ·have x:=HX j hlt;obtain⟨b0,b1⟩:=hb (3*j);obtain⟨d0,d1⟩:=hb (3*j+1);obtain⟨e0,e1⟩:=hb (3*j+2);have HO:=kH (HP j);generalize mJ a (pR k) j=s at *
   generalize pV k (3*j)=qa at *
   generalize pV k (3*j+1)=qb at *
   generalize pV k (3*j+2)=qc at *
   obtain⟨y,hy⟩:∃y,a/2^qa.toNat%2^qc.toNat=y:=⟨_,rfl⟩;rw[hy]at HO;have HY:=kH hy;go_wp2;refine awV al al ?_;iterate 6 go_big_quiet_step (fail)
   go_big_quiet_step (exact Calls.quiet_of (mX a qa qc y _ u0 u1 b0 b1 e0 e1 HY));iterate 5 go_big_quiet_step (fail)
   refine axa ?_;intro _ h;obtain⟨nq,h2⟩:=h;subst h2;go_wp2;go_roundw
   case rel=>exact⟨(g.alloc _ _).drewN _,j+1,ab,by go_num,by rw[HO.out]⟩
   case measure=>simp[intOf];omega
  ·have ej:j=4:=ab;subst ej;have c16:=(HT.of g).shapes _ _ gH;go_wp2;go_ret;exact⟨av (by rw[PD]),g⟩
theorem KT:iY 0:=by
 intro a w T h0 h1;refine(kQ (k:=0) ab a w T h0 h1).mono fun e w' ⟨he,hg⟩=>⟨he.trans (av ?_),hg⟩
 have e0:mJ a (pR 0) 0=0:=rfl;have e1:=aC e0 ⟨ab,ab⟩ rfl;have e2:=aC e1 ⟨ab,ab⟩ rfl;have e3:=aC e2 ⟨ab,ab⟩ rfl;have e4:=aC e3 ⟨ab,ab⟩ rfl;rw[e4];refine axd ?_ (ae2 a h0 h1);show wrap32 (_*1)/1=_
 rw[atm,atf];unfold wrap32;omega
theorem KV:iY 1:=by
 intro a w T h0 h1;refine(kQ (k:=1) ab a w T h0 h1).mono fun e w' ⟨he,hg⟩=>⟨he.trans (av ?_),hg⟩
 have e0:mJ a (pR 1) 0=0:=rfl;have e1:=bG e0 12 20 12 rfl ⟨ab,ab⟩ ab an an an;have e2:=aC e1 ⟨ab,ab⟩ rfl;have e3:=aC e2 ⟨ab,ab⟩ rfl;have e4:=aC e3 ⟨ab,ab⟩ rfl;rw[e4];refine axd ?_ (ae3 a h0 h1);show wrap32 (_*1)/1=_
 rw[atm,atf];congr 1;omega
theorem KW:iY 2:=by
 intro a w T h0 h1;refine(kQ (k:=2) ab a w T h0 h1).mono fun e w' ⟨he,hg⟩=>⟨he.trans (av ?_),hg⟩
 have e0:mJ a (pR 2) 0=0:=rfl;have e1:=bG e0 31 1 20 rfl ⟨ab,ab⟩ ab an an an;have e2:=bG e1 12 8 12 rfl ⟨ab,ab⟩ ab an an an;have e3:=bG e2 20 1 11 rfl ⟨ab,ab⟩ ab an an an;have e4:=bG e3 21 10 1 rfl ⟨ab,ab⟩ ab an an an;rw[e4];refine axd ?_ (ae4 a h0 h1);show wrap32 (_*2048)/2048=_
 congr 3;omega
theorem KX:iY 3:=by
 intro a w T h0 h1;refine(kQ (k:=3) ab a w T h0 h1).mono fun e w' ⟨he,hg⟩=>⟨he.trans (av ?_),hg⟩
 have e0:mJ a (pR 3) 0=0:=rfl;have e1:=bG e0 20 12 0 rfl ⟨ab,ab⟩ ab an an an;have e2:=aC e1 ⟨ab,ab⟩ rfl;have e3:=aC e2 ⟨ab,ab⟩ rfl;have e4:=aC e3 ⟨ab,ab⟩ rfl;rw[e4];refine axd ?_ (ae5 a h0 h1);show wrap32 (_*1048576)/1048576=_
 congr 2;omega
theorem KY:iY 4:=by
 intro a w T h0 h1;refine(kQ (k:=4) ab a w T h0 h1).mono fun e w' ⟨he,hg⟩=>⟨he.trans (av ?_),hg⟩
 have e0:mJ a (pR 4) 0=0:=rfl;have e1:=bG e0 20 5 0 rfl ⟨ab,ab⟩ ab an an an;have e2:=aC e1 ⟨ab,ab⟩ rfl;have e3:=aC e2 ⟨ab,ab⟩ rfl;have e4:=aC e3 ⟨ab,ab⟩ rfl;rw[e4];refine axd ?_ (ae6 a h0 h1);show wrap32 (_*1)/1=_
 rw[atm,atf];unfold wrap32;omega
theorem KZ:iY 5:=by
 intro a w T h0 h1;refine(kQ (k:=5) ab a w T h0 h1).mono fun e w' ⟨he,hg⟩=>⟨he.trans (av ?_),hg⟩
 have e0:mJ a (pR 5) 0=0:=rfl;have e1:=bG e0 31 1 12 rfl ⟨ab,ab⟩ ab an an an;have e2:=bG e1 7 1 11 rfl ⟨ab,ab⟩ ab an an an;have e3:=bG e2 25 6 5 rfl ⟨ab,ab⟩ ab an an an;have e4:=bG e3 8 4 1 rfl ⟨ab,ab⟩ ab an an an;rw[e4];refine axd ?_ (ae7 a h0 h1);show wrap32 (_*524288)/524288=_
 congr 3;omega
theorem K4:iY 6:=by
 intro a w T h0 h1;refine(kQ (k:=6) ab a w T h0 h1).mono fun e w' ⟨he,hg⟩=>⟨he.trans (av ?_),hg⟩
 have e0:mJ a (pR 6) 0=0:=rfl;have e1:=bG e0 25 7 5 rfl ⟨ab,ab⟩ ab an an an;have e2:=bG e1 7 5 0 rfl ⟨ab,ab⟩ ab an an an;have e3:=aC e2 ⟨ab,ab⟩ rfl;have e4:=aC e3 ⟨ab,ab⟩ rfl;rw[e4];refine axd ?_ (ae8 a h0 h1);show wrap32 (_*1048576)/1048576=_
 congr 3;omega
theorem K5:iY 7:=by
 intro a w T h0 h1;refine(kQ (k:=7) ab a w T h0 h1).mono fun e w' ⟨he,hg⟩=>⟨he.trans (av ?_),hg⟩
 have e0:mJ a (pR 7) 0=0:=rfl;have e1:=aC e0 ⟨ab,ab⟩ rfl;have e2:=aC e1 ⟨ab,ab⟩ rfl;have e3:=aC e2 ⟨ab,ab⟩ rfl;have e4:=aC e3 ⟨ab,ab⟩ rfl;rw[e4];refine axd ?_ (ae9 a h0 h1);show wrap32 (_*1)/1=_
 rw[atm,atf];unfold wrap32;omega
theorem K6:iY 8:=by
 intro a w T h0 h1;refine(kQ (k:=8) ab a w T h0 h1).mono fun e w' ⟨he,hg⟩=>⟨he.trans (av ?_),hg⟩
 have e0:mJ a (pR 8) 0=0:=rfl;have e1:=bG e0 25 2 0 rfl ⟨ab,ab⟩ ab an an an;have e2:=aC e1 ⟨ab,ab⟩ rfl;have e3:=aC e2 ⟨ab,ab⟩ rfl;have e4:=aC e3 ⟨ab,ab⟩ rfl;rw[e4];refine axd ?_ (afa a h0 h1);show wrap32 (_*1)/1=_
 rw[atm,atf];unfold wrap32;omega
theorem K7:iY 9:=by
 intro a w T h0 h1;refine(kQ (k:=9) ab a w T h0 h1).mono fun e w' ⟨he,hg⟩=>⟨he.trans (av ?_),hg⟩
 have e0:mJ a (pR 9) 0=0:=rfl;have e1:=aC e0 ⟨ab,ab⟩ rfl;have e2:=aC e1 ⟨ab,ab⟩ rfl;have e3:=aC e2 ⟨ab,ab⟩ rfl;have e4:=aC e3 ⟨ab,ab⟩ rfl;rw[e4];refine axd ?_ (afb a h0 h1);show wrap32 (_*1)/1=_
 rw[atm,atf];unfold wrap32;omega
end Dw
namespace Dw
def dm (op rd bQ cu j6:Int):Value:=.agg #[int i64 op,int i64 rd,int i64 bQ,int i64 cu,int .i32 j6]
theorem dB {w1}{t}(g:Gr (w.alloc (.cells c t)) w1):(∀i v,c[i]?=some v->w1.cell? ⟨w.heap.size,i,none⟩=some v)/\(∀i,w1.frozen? ⟨w.heap.size,i,none⟩=false)/\w.heap.size<w1.heap.size:=by
 have hs:(w.alloc (.cells c t)).heap.size=w.heap.size+1:=aq;refine⟨fun i v h=>?_,fun i=>?_,by have:=g.size;omega⟩
 ·rw[g.cell _ _ ab,World.cell?_alloc_new,h]
 ·rw[g.2,frozen?_alloc_cells];simp[World.frozen?]
theorem lD (a)(w)(h0:0<=a)(h1:a<4294967296):Calls prog 63 #[int .u32 a,int i64 7,int i64 5] w fun e w'=>e=returned (int .u32 (a/128%32))/\∃m,w'=w.drewN m:=mX a 7 5 _ w h0 h1 ab ab ab ab rfl
theorem jL (a)(w)(h0:0<=a)(h1:a<4294967296):Calls prog 63 #[int .u32 a,int i64 15,int i64 5] w fun e w'=>e=returned (int .u32 (a/32768%32))/\∃m,w'=w.drewN m:=mX a 15 5 _ w h0 h1 ab ab ab ab rfl
theorem oC (a)(w)(h0:0<=a)(h1:a<4294967296):Calls prog 63 #[int .u32 a,int i64 20,int i64 5] w fun e w'=>e=returned (int .u32 (a/1048576%32))/\∃m,w'=w.drewN m:=mX a 20 5 _ w h0 h1 ab ab ab ab rfl
def Read (f:Int):Prop:=∀(k a:Int) (w:World),oV w->0<=a->a<4294967296->Calls prog 28 #[int i64 k,int i64 f,int .u32 a] w fun e w'=>e=returned (dm k (Dc.jd f a) (Dc.dh f a) (Dc.cz f a) (Dc.bU f a))/\Gr w w'
theorem abb:Read 0:=by intro k a w T h0 h1;go_enter func28,ntmps28;go_wp2_with fail;refine(KT a _ (T.of ((Gr.refl _).alloc _ _)) h0 h1).mono ?_;rintro e w1 ⟨rfl,g⟩;have T1:=(T.of ((Gr.refl _).alloc _ _)).of g;have b0:=lt_of_cell (T1.shapes 0 _ rfl);have c1:=T1.shapes 1 _ rfl;have c2:=T1.shapes 2 _ rfl;have c3:=T1.shapes 3 _ rfl;obtain⟨f1,f2,f3⟩:=dB g;have r0:=f1 0 _ rfl;have r1:=f1 1 _ rfl;have r2:=f1 2 _ rfl;have r3:=f1 3 _ rfl;have r4:=f1 4 _ rfl;have G:=kH (((Gr.refl _).alloc _ _).trans g);go_wp2_with fail;refine awt (v:=dm k (Dc.jd 0 a) (Dc.dh 0 a) (Dc.cz 0 a) (Dc.bU 0 a)) (by simp[results,results28,go_sem,r0,r1,r2,r3,r4,f3,dm,Dc.jd,Dc.dh,Dc.cz,Dc.mI,Dc.jm,Dc.jo]) rfl ⟨rfl,?_⟩;have Z:=G;exact(((((Z.setCell aq _).setCell aq _).setCell aq _).setCell aq _).setCell aq _).alloc _ _
theorem abd:Read 1:=by intro k a w T h0 h1;go_enter func28,ntmps28;go_wp2_with fail;refine(KV a _ (T.of ((Gr.refl _).alloc _ _)) h0 h1).mono ?_;rintro e w1 ⟨rfl,g⟩;have T1:=(T.of ((Gr.refl _).alloc _ _)).of g;have b0:=lt_of_cell (T1.shapes 0 _ rfl);have c1:=T1.shapes 18 _ rfl;have c2:=T1.shapes 19 _ rfl;have c3:=T1.shapes 20 _ rfl;obtain⟨f1,f2,f3⟩:=dB g;have r0:=f1 0 _ rfl;have r1:=f1 1 _ rfl;have r2:=f1 2 _ rfl;have r3:=f1 3 _ rfl;have r4:=f1 4 _ rfl;have G:=kH (((Gr.refl _).alloc _ _).trans g);go_wp2_with fail;refine(lD a _ h0 h1).mono ?_;rintro e w' ⟨rfl,PE,rfl⟩;go_wp2_with fail;refine awt (v:=dm k (Dc.jd 1 a) (Dc.dh 1 a) (Dc.cz 1 a) (Dc.bU 1 a)) (by simp[results,results28,go_sem,r0,r1,r2,r3,r4,f3,dm,Dc.jd,Dc.dh,Dc.cz,Dc.mI,Dc.jm,Dc.jo]) rfl ⟨rfl,?_⟩;have Z:=G;exact((((((((Z.alloc _ _).drewN _).setCell aE _).setCell aq _).setCell aq _).setCell aq _).setCell aq _).setCell aq _)
theorem abe:Read 2:=by intro k a w T h0 h1;go_enter func28,ntmps28;go_wp2_with fail;refine(KW a _ (T.of ((Gr.refl _).alloc _ _)) h0 h1).mono ?_;rintro e w1 ⟨rfl,g⟩;have T1:=(T.of ((Gr.refl _).alloc _ _)).of g;have b0:=lt_of_cell (T1.shapes 0 _ rfl);have c1:=T1.shapes 35 _ rfl;have c2:=T1.shapes 36 _ rfl;have c3:=T1.shapes 37 _ rfl;obtain⟨f1,f2,f3⟩:=dB g;have r0:=f1 0 _ rfl;have r1:=f1 1 _ rfl;have r2:=f1 2 _ rfl;have r3:=f1 3 _ rfl;have r4:=f1 4 _ rfl;have G:=kH (((Gr.refl _).alloc _ _).trans g);go_wp2_with fail;refine(lD a _ h0 h1).mono ?_;rintro e w' ⟨rfl,PE,rfl⟩;go_wp2_with fail;refine awt (v:=dm k (Dc.jd 2 a) (Dc.dh 2 a) (Dc.cz 2 a) (Dc.bU 2 a)) (by simp[results,results28,go_sem,r0,r1,r2,r3,r4,f3,dm,Dc.jd,Dc.dh,Dc.cz,Dc.mI,Dc.jm,Dc.jo]) rfl ⟨rfl,?_⟩;have Z:=G;exact((((((((Z.alloc _ _).drewN _).setCell aE _).setCell aq _).setCell aq _).setCell aq _).setCell aq _).setCell aq _)
theorem abf:Read 3:=by intro k a w T h0 h1;go_enter func28,ntmps28;go_wp2_with fail;refine(KX a _ (T.of ((Gr.refl _).alloc _ _)) h0 h1).mono ?_;rintro e w1 ⟨rfl,g⟩;have T1:=(T.of ((Gr.refl _).alloc _ _)).of g;have b0:=lt_of_cell (T1.shapes 0 _ rfl);have c1:=T1.shapes 52 _ rfl;have c2:=T1.shapes 53 _ rfl;have c3:=T1.shapes 54 _ rfl;obtain⟨f1,f2,f3⟩:=dB g;have r0:=f1 0 _ rfl;have r1:=f1 1 _ rfl;have r2:=f1 2 _ rfl;have r3:=f1 3 _ rfl;have r4:=f1 4 _ rfl;have G:=kH (((Gr.refl _).alloc _ _).trans g);go_wp2_with fail;refine(lD a _ h0 h1).mono ?_;rintro e w' ⟨rfl,PE,rfl⟩;go_wp2_with fail;refine(jL a _ h0 h1).mono ?_;rintro e w' ⟨rfl,CS,rfl⟩;go_wp2_with fail;refine awt (v:=dm k (Dc.jd 3 a) (Dc.dh 3 a) (Dc.cz 3 a) (Dc.bU 3 a)) (by simp[results,results28,go_sem,r0,r1,r2,r3,r4,f3,dm,Dc.jd,Dc.dh,Dc.cz,Dc.mI,Dc.jm,Dc.jo]) rfl ⟨rfl,?_⟩;have Z:=G;exact((((((((((Z.alloc _ _).drewN _).setCell aE _).drewN _).setCell aE _).setCell aq _).setCell aq _).setCell aq _).setCell aq _).setCell aq _)
theorem abg:Read 4:=by intro k a w T h0 h1;go_enter func28,ntmps28;go_wp2_with fail;refine(KY a _ (T.of ((Gr.refl _).alloc _ _)) h0 h1).mono ?_;rintro e w1 ⟨rfl,g⟩;have T1:=(T.of ((Gr.refl _).alloc _ _)).of g;have b0:=lt_of_cell (T1.shapes 0 _ rfl);have c1:=T1.shapes 69 _ rfl;have c2:=T1.shapes 70 _ rfl;have c3:=T1.shapes 71 _ rfl;obtain⟨f1,f2,f3⟩:=dB g;have r0:=f1 0 _ rfl;have r1:=f1 1 _ rfl;have r2:=f1 2 _ rfl;have r3:=f1 3 _ rfl;have r4:=f1 4 _ rfl;have G:=kH (((Gr.refl _).alloc _ _).trans g);go_wp2_with fail;refine(lD a _ h0 h1).mono ?_;rintro e w' ⟨rfl,PE,rfl⟩;go_wp2_with fail;refine(jL a _ h0 h1).mono ?_;rintro e w' ⟨rfl,CS,rfl⟩;go_wp2_with fail;refine awt (v:=dm k (Dc.jd 4 a) (Dc.dh 4 a) (Dc.cz 4 a) (Dc.bU 4 a)) (by simp[results,results28,go_sem,r0,r1,r2,r3,r4,f3,dm,Dc.jd,Dc.dh,Dc.cz,Dc.mI,Dc.jm,Dc.jo]) rfl ⟨rfl,?_⟩;have Z:=G;exact((((((((((Z.alloc _ _).drewN _).setCell aE _).drewN _).setCell aE _).setCell aq _).setCell aq _).setCell aq _).setCell aq _).setCell aq _)
theorem abh:Read 5:=by intro k a w T h0 h1;go_enter func28,ntmps28;go_wp2_with fail;refine(KZ a _ (T.of ((Gr.refl _).alloc _ _)) h0 h1).mono ?_;rintro e w1 ⟨rfl,g⟩;have T1:=(T.of ((Gr.refl _).alloc _ _)).of g;have b0:=lt_of_cell (T1.shapes 0 _ rfl);have c1:=T1.shapes 86 _ rfl;have c2:=T1.shapes 87 _ rfl;have c3:=T1.shapes 88 _ rfl;obtain⟨f1,f2,f3⟩:=dB g;have r0:=f1 0 _ rfl;have r1:=f1 1 _ rfl;have r2:=f1 2 _ rfl;have r3:=f1 3 _ rfl;have r4:=f1 4 _ rfl;have G:=kH (((Gr.refl _).alloc _ _).trans g);go_wp2_with fail;refine(jL a _ h0 h1).mono ?_;rintro e w' ⟨rfl,CS,rfl⟩;go_wp2_with fail;refine(oC a _ h0 h1).mono ?_;rintro e w' ⟨rfl,PG,rfl⟩;go_wp2_with fail;refine awt (v:=dm k (Dc.jd 5 a) (Dc.dh 5 a) (Dc.cz 5 a) (Dc.bU 5 a)) (by simp[results,results28,go_sem,r0,r1,r2,r3,r4,f3,dm,Dc.jd,Dc.dh,Dc.cz,Dc.mI,Dc.jm,Dc.jo]) rfl ⟨rfl,?_⟩;have Z:=G;exact((((((((((Z.alloc _ _).drewN _).setCell aE _).drewN _).setCell aE _).setCell aq _).setCell aq _).setCell aq _).setCell aq _).setCell aq _)
theorem abj:Read 6:=by intro k a w T h0 h1;go_enter func28,ntmps28;go_wp2_with fail;refine(K4 a _ (T.of ((Gr.refl _).alloc _ _)) h0 h1).mono ?_;rintro e w1 ⟨rfl,g⟩;have T1:=(T.of ((Gr.refl _).alloc _ _)).of g;have b0:=lt_of_cell (T1.shapes 0 _ rfl);have c1:=T1.shapes 103 _ rfl;have c2:=T1.shapes 104 _ rfl;have c3:=T1.shapes 105 _ rfl;obtain⟨f1,f2,f3⟩:=dB g;have r0:=f1 0 _ rfl;have r1:=f1 1 _ rfl;have r2:=f1 2 _ rfl;have r3:=f1 3 _ rfl;have r4:=f1 4 _ rfl;have G:=kH (((Gr.refl _).alloc _ _).trans g);go_wp2_with fail;refine(jL a _ h0 h1).mono ?_;rintro e w' ⟨rfl,CS,rfl⟩;go_wp2_with fail;refine(oC a _ h0 h1).mono ?_;rintro e w' ⟨rfl,PG,rfl⟩;go_wp2_with fail;refine awt (v:=dm k (Dc.jd 6 a) (Dc.dh 6 a) (Dc.cz 6 a) (Dc.bU 6 a)) (by simp[results,results28,go_sem,r0,r1,r2,r3,r4,f3,dm,Dc.jd,Dc.dh,Dc.cz,Dc.mI,Dc.jm,Dc.jo]) rfl ⟨rfl,?_⟩;have Z:=G;exact((((((((((Z.alloc _ _).drewN _).setCell aE _).drewN _).setCell aE _).setCell aq _).setCell aq _).setCell aq _).setCell aq _).setCell aq _)
theorem abk:Read 7:=by intro k a w T h0 h1;go_enter func28,ntmps28;go_wp2_with fail;refine(K5 a _ (T.of ((Gr.refl _).alloc _ _)) h0 h1).mono ?_;rintro e w1 ⟨rfl,g⟩;have T1:=(T.of ((Gr.refl _).alloc _ _)).of g;have b0:=lt_of_cell (T1.shapes 0 _ rfl);have c1:=T1.shapes 120 _ rfl;have c2:=T1.shapes 121 _ rfl;have c3:=T1.shapes 122 _ rfl;obtain⟨f1,f2,f3⟩:=dB g;have r0:=f1 0 _ rfl;have r1:=f1 1 _ rfl;have r2:=f1 2 _ rfl;have r3:=f1 3 _ rfl;have r4:=f1 4 _ rfl;have G:=kH (((Gr.refl _).alloc _ _).trans g);go_wp2_with fail;refine(lD a _ h0 h1).mono ?_;rintro e w' ⟨rfl,PE,rfl⟩;go_wp2_with fail;refine(jL a _ h0 h1).mono ?_;rintro e w' ⟨rfl,CS,rfl⟩;go_wp2_with fail;refine(oC a _ h0 h1).mono ?_;rintro e w' ⟨rfl,PG,rfl⟩;go_wp2_with fail;refine awt (v:=dm k (Dc.jd 7 a) (Dc.dh 7 a) (Dc.cz 7 a) (Dc.bU 7 a)) (by simp[results,results28,go_sem,r0,r1,r2,r3,r4,f3,dm,Dc.jd,Dc.dh,Dc.cz,Dc.mI,Dc.jm,Dc.jo]) rfl ⟨rfl,?_⟩;have Z:=G;exact((((((((((((Z.alloc _ _).drewN _).setCell aE _).drewN _).setCell aE _).drewN _).setCell aE _).setCell aq _).setCell aq _).setCell aq _).setCell aq _).setCell aq _)
theorem abl:Read 8:=by intro k a w T h0 h1;go_enter func28,ntmps28;go_wp2_with fail;refine(K6 a _ (T.of ((Gr.refl _).alloc _ _)) h0 h1).mono ?_;rintro e w1 ⟨rfl,g⟩;have T1:=(T.of ((Gr.refl _).alloc _ _)).of g;have b0:=lt_of_cell (T1.shapes 0 _ rfl);have c1:=T1.shapes 137 _ rfl;have c2:=T1.shapes 138 _ rfl;have c3:=T1.shapes 139 _ rfl;obtain⟨f1,f2,f3⟩:=dB g;have r0:=f1 0 _ rfl;have r1:=f1 1 _ rfl;have r2:=f1 2 _ rfl;have r3:=f1 3 _ rfl;have r4:=f1 4 _ rfl;have G:=kH (((Gr.refl _).alloc _ _).trans g);go_wp2_with fail;refine(lD a _ h0 h1).mono ?_;rintro e w' ⟨rfl,PE,rfl⟩;go_wp2_with fail;refine(jL a _ h0 h1).mono ?_;rintro e w' ⟨rfl,CS,rfl⟩;go_wp2_with fail;refine(oC a _ h0 h1).mono ?_;rintro e w' ⟨rfl,PG,rfl⟩;go_wp2_with fail;refine awt (v:=dm k (Dc.jd 8 a) (Dc.dh 8 a) (Dc.cz 8 a) (Dc.bU 8 a)) (by simp[results,results28,go_sem,r0,r1,r2,r3,r4,f3,dm,Dc.jd,Dc.dh,Dc.cz,Dc.mI,Dc.jm,Dc.jo]) rfl ⟨rfl,?_⟩;have Z:=G;exact((((((((((((Z.alloc _ _).drewN _).setCell aE _).drewN _).setCell aE _).drewN _).setCell aE _).setCell aq _).setCell aq _).setCell aq _).setCell aq _).setCell aq _)
theorem abm:Read 9:=by intro k a w T h0 h1;go_enter func28,ntmps28;go_wp2_with fail;refine(K7 a _ (T.of ((Gr.refl _).alloc _ _)) h0 h1).mono ?_;rintro e w1 ⟨rfl,g⟩;have T1:=(T.of ((Gr.refl _).alloc _ _)).of g;have b0:=lt_of_cell (T1.shapes 0 _ rfl);have c1:=T1.shapes 154 _ rfl;have c2:=T1.shapes 155 _ rfl;have c3:=T1.shapes 156 _ rfl;obtain⟨f1,f2,f3⟩:=dB g;have r0:=f1 0 _ rfl;have r1:=f1 1 _ rfl;have r2:=f1 2 _ rfl;have r3:=f1 3 _ rfl;have r4:=f1 4 _ rfl;have G:=kH (((Gr.refl _).alloc _ _).trans g);go_wp2_with fail;refine awt (v:=dm k (Dc.jd 9 a) (Dc.dh 9 a) (Dc.cz 9 a) (Dc.bU 9 a)) (by simp[results,results28,go_sem,r0,r1,r2,r3,r4,f3,dm,Dc.jd,Dc.dh,Dc.cz,Dc.mI,Dc.jm,Dc.jo]) rfl ⟨rfl,?_⟩;have Z:=G;exact(((((Z.setCell aq _).setCell aq _).setCell aq _).setCell aq _).setCell aq _).alloc _ _
theorem vI (f)(h0:0<=f)(h1:f<=9):Read f:=by
 have h:f=0\/f=1\/f=2\/f=3\/f=4\/f=5\/f=6\/f=7\/f=8\/f=9:=ab;rcases h with rfl|rfl|rfl|rfl|rfl|rfl|rfl|rfl|rfl|rfl
 ·exact abb
 ·exact abd
 ·exact abe
 ·exact abf
 ·exact abg
 ·exact abh
 ·exact abj
 ·exact abk
 ·exact abl
 ·exact abm
end Dw
namespace Dw
def kv (a:Int):Value:=dm (Dc.aO a) (Dc.jd (Dc.aM (Dc.aO a)) a) (Dc.dh (Dc.aM (Dc.aO a)) a) (Dc.cz (Dc.aM (Dc.aO a)) a) (Dc.bU (Dc.aM (Dc.aO a)) a)
def gI (a:Int):Bool:=decide (Dc.aO a≠0)
theorem jf (h:Dc.aO a=0):kv a=dm 0 0 0 0 0/\gI a=false:=by unfold kv gI;rw[h];exact⟨rfl,rfl⟩
theorem CU {k}(h:Dc.aO a=k)(hk:1<=k):kv a=dm k (Dc.jd (Dc.aM k) a) (Dc.dh (Dc.aM k) a) (Dc.cz (Dc.aM k) a) (Dc.bU (Dc.aM k) a)/\gI a=true:=by unfold kv gI;rw[h];exact⟨rfl,aE⟩
theorem afc (lo):(1<=Dc.sp1 lo\/Dc.sp2 lo = -1)/\0<=Dc.sp1 lo/\Dc.sp1 lo<=58 /\ -1<=Dc.sp2 lo/\Dc.sp2 lo<=59/\Dc.sp1 lo<=Dc.sp2 lo+1:=by
 unfold Dc.sp1 Dc.sp2;by_cases h1:lo=55
 ·simp[h1]
 by_cases h2:lo=23
 ·simp[h2]
 by_cases h3:lo=111
 ·simp[h3]
 by_cases h4:lo=103
 ·simp[h4]
 by_cases h5:lo=99
 ·simp[h5]
 by_cases h6:lo=3
 ·simp[h6]
 by_cases h7:lo=35
 ·simp[h7]
 by_cases h8:lo=19
 ·simp[h8]
 by_cases h9:lo=51
 ·simp[h9]
 by_cases h10:lo=47
 ·simp[h10]
 by_cases h11:lo=15
 ·simp[h11]
 by_cases h12:lo=115
 ·simp[h12]
 simp[h1,h2,h3,h4,h5,h6,h7,h8,h9,h10,h11,h12]
theorem V3 (f):0<=Dc.mask f/\Dc.mask f<4294967296:=by
 unfold Dc.mask;repeat' split
 all_goals omega
theorem K8 (T:oV w)(f)(h0:0<=f)(h1:f<=9):w.cell? ⟨0,f.toNat*17,none⟩=some (int .u32 (Dc.mask f)):=by
 have h:f=0\/f=1\/f=2\/f=3\/f=4\/f=5\/f=6\/f=7\/f=8\/f=9:=ab;rcases h with rfl|rfl|rfl|rfl|rfl|rfl|rfl|rfl|rfl|rfl
 ·exact T.shapes 0 _ rfl
 ·exact T.shapes 17 _ rfl
 ·exact T.shapes 34 _ rfl
 ·exact T.shapes 51 _ rfl
 ·exact T.shapes 68 _ rfl
 ·exact T.shapes 85 _ rfl
 ·exact T.shapes 102 _ rfl
 ·exact T.shapes 119 _ rfl
 ·exact T.shapes 136 _ rfl
 ·exact T.shapes 153 _ rfl
theorem PH {s1 s2}(h0:0<=a)(h1:a<4294967296)(e1:Dc.sp1 (a%128)=s1)(e2:Dc.sp2 (a%128)=s2)(h:∀j,s1<=j->j<=s2->Dc.raw a≠j):Dc.aO a=0:=by
 have:Dc.raw a=0:=by
  by_cases hr:Dc.raw a=0
  ·exact hr
  ·have:=Dc.uY h0 h1 hr;exact absurd rfl (h (Dc.raw a) ab ab)
 unfold Dc.aO;rw[this];rfl
theorem gz (a)(w)(T:oV w)(h0:0<=a)(h1:a<4294967296):Calls prog 14 #[int .u32 a] w fun e w'=>e=returned (tuple #[kv a,.bool (gI a)])/\Gr w w':=by
 have hs:=afc (a%128);go_enter func14,ntmps14;go_wp2_with fail;refine(Px a _ h0 h1).mono ?_;rintro e w' ⟨rfl,rfl⟩;have E1:Hid (Dc.sp1 (a%128)=Dc.sp1 (a%128)):=rfl;have E2:Hid (Dc.sp2 (a%128)=Dc.sp2 (a%128)):=rfl;go_wp2_with fail;generalize hs1:Dc.sp1 (a%128)=s1 at *
 generalize hs2:Dc.sp2 (a%128)=s2 at *
 have H1:=kH hs1;have H2:=kH hs2;obtain⟨p1,p2,p3,p4,p5,p6⟩:=hs;go_loopw [6] (fun i wr=>∃k:Int,i=int i64 k/\s1<=k/\k<=s2+1/\(∀j,s1<=j->j<k->Dc.raw a≠j)/\Gr (w.alloc (.cells #[int i64 0,int i64 0,int i64 0,int i64 0,int .i32 0] 59)) wr) (fun i _=>(s2+1-intOf i).toNat)
 case atStart=>exact⟨s1,rfl,ab,ab,fun j _ _=>ab,Gr.refl _⟩
 case round=>
  obtain⟨k,rfl,k1,k2,k3,g⟩:=hrel;obtain⟨f1,f2,f3⟩:=dB g;have r0:=f1 0 _ rfl;have r1:=f1 1 _ rfl;have r2:=f1 2 _ rfl;have r3:=f1 3 _ rfl;have r4:=f1 4 _ rfl;have T1:=(T.of ((Gr.refl _).alloc _ _)).of g;have G:=kH (((Gr.refl _).alloc _ _).trans g);have G1:=kH g;by_cases hk:k<=s2
  ·have hfb:=Dc.NZ k;have hti:=Dc.Oa (w:=a) (k:=k) h0 h1 ab ab;have hmb:=V3 (Dc.aM k);have hb:=fD a (Dc.mask (Dc.aM k)) h0 h1 hmb.1 hmb.2;rw[<-hb]at hti;have HT:=kH hti;have K3:=kH k3;go_wp2_with fail;refine(qN k _ T1).mono ?_;rintro e w2 ⟨rfl,g2⟩;have m0:=K8 (T1.of g2) (Dc.aM k) hfb.1 hfb.2;have G2:=kH (G1.trans g2);have T2:=T1.of g2;by_cases hr:Dc.raw a=k
   ·have nb:(bits .and .u32 a (Dc.mask (Dc.aM k)) !=Dc.bP k)=false:=by simp[HT.out.2 hr]
    have HR:Hid (Dc.raw a=k):=hr;go_wp2_with fail;refine(vI (Dc.aM k) hfb.1 hfb.2 k a w2 T2 h0 h1).mono ?_;rintro e w3 ⟨rfl,g3⟩;unfold dm;have g:=G2.trans g3;obtain⟨f1,f2,f3⟩:=dB g;have r0:=f1 0 _ rfl;have r1:=f1 1 _ rfl;have r2:=f1 2 _ rfl;have r3:=f1 3 _ rfl;have r4:=f1 4 _ rfl;have G:=kH (((Gr.refl _).alloc _ _).trans g);by_cases afd:k=46
    ·subst afd;by_cases hz:a/1048576%32=0
     ·obtain⟨Zk,Zl⟩:=CU (a:=a) (k:=46) (by unfold Dc.aO;rw[HR.out,ak]) ab;have DV:=kH Zk;have DO:=kH Zl;have hz':Dc.cz (Dc.aM 46) a=0:=hz;go_wp2_with fail;refine awt (v:=tuple #[dm 46 (Dc.jd (Dc.aM 46) a) (Dc.dh (Dc.aM 46) a) (Dc.cz (Dc.aM 46) a) (Dc.bU (Dc.aM 46) a),.bool true]) (by simp[results,results14,go_sem,r0,r1,r2,r3,r4,f3,dm,hz']) rfl ⟨by rw[DV.out,DO.out],?_⟩;exact(((((G.setCell aq _).setCell aq _).setCell aq _).setCell aq _).setCell aq _).alloc _ _
     ·obtain⟨Zk,Zl⟩:=jf (a:=a) (by unfold Dc.aO;rw[HR.out,awn ⟨rfl,hz⟩]);have DV:=kH Zk;have DO:=kH Zl;have hz':(Dc.cz (Dc.aM 46) a !=0)=true:=by rw[show Dc.cz (Dc.aM 46) a=a/1048576%32 from rfl];simpa using hz
      go_wp2_with fail;refine awt (v:=tuple #[dm 0 0 0 0 0,.bool false]) (by simp[results,results14,go_sem,r0,r1,r2,r3,r4,f3,dm]) rfl ⟨by rw[DV.out,DO.out],?_⟩;exact(((((G.setCell aq _).setCell aq _).setCell aq _).setCell aq _).setCell aq _).alloc _ _
    ·obtain⟨Zk,Zl⟩:=CU (a:=a) (k:=k) (by unfold Dc.aO;rw[HR.out,ak]) ab;have DV:=kH Zk;have DO:Hid (gI a=true):=Zl;have b46:(k ==46)=false:=by simpa using afd
     go_wp2_with fail;refine awt (v:=tuple #[dm k (Dc.jd (Dc.aM k) a) (Dc.dh (Dc.aM k) a) (Dc.cz (Dc.aM k) a) (Dc.bU (Dc.aM k) a),.bool true]) (by simp[results,results14,go_sem,r0,r1,r2,r3,r4,f3,dm]) rfl ⟨by rw[DV.out,DO.out],?_⟩;exact(((((G.setCell aq _).setCell aq _).setCell aq _).setCell aq _).setCell aq _).alloc _ _
   ·have nb:(bits .and .u32 a (Dc.mask (Dc.aM k)) !=Dc.bP k)=true:=by simp;intro h;exact hr (HT.1 h)
    go_wp2_with fail;refine⟨⟨k+1,rfl,ab,ab,fun j j1 j2=>?_,G2⟩,by simp only[intOf];omega⟩;by_cases e:j=k
    ·rw[e];exact hr
    ·exact K3 j j1 ab
  ·obtain⟨Zk,Zl⟩:=jf (PH h0 h1 H1 H2 fun j j1 j2=>k3 j j1 ab);have DV:Hid (kv a=_):=Zk;have DO:Hid (gI a=false):=Zl;clear k3 Zk Zl;go_wp2;refine awt (v:=tuple #[dm 0 0 0 0 0,.bool false]) (by simp[results,results14,go_sem,r0,r1,r2,r3,r4,f3,dm]) rfl ⟨by rw[DV.out,DO.out],?_⟩;exact(((((G.setCell aq _).setCell aq _).setCell aq _).setCell aq _).setCell aq _)
end Dw
namespace Re
open Dw
theorem zK (h0:0<=a)(h1:a<4294967296):0<=Dc.aO a/\Dc.aO a<=59:=by have:=Dc.l9 h0 h1;unfold Dc.aO;split<;>omega
end Re
namespace Ts
open Mm Wd Mi Bk
open Hh hiding Rn
variable{i:Iv}
def EJ (a:Int) (i:Iv):List Mv:=
 if i.op=1 then[⟨2,i.rd,0,0,lo i.im⟩]else if i.op=2 then[⟨2,i.rd,0,0,lo (a+lo i.im)⟩]
 else if i.op=3 then[⟨2,i.rd,0,0,lo (a+4)⟩,⟨3,0,0,0,lo (a+lo i.im)⟩]
 else if i.op=4 then[⟨528,32,i.r1,0,lo i.im⟩,⟨2,i.rd,0,0,lo (a+4)⟩,⟨4,0,32,0,0⟩]
 else if 5<=i.op/\i.op<=10 then[⟨100+i.op,0,i.r1,i.r2,lo (a+lo i.im)⟩]
 else if 11<=i.op/\i.op<=15 then[⟨200+i.op,i.rd,i.r1,0,lo i.im⟩]
 else if 16<=i.op/\i.op<=18 then[⟨300+i.op,0,i.r1,i.r2,lo i.im⟩]
 else if i.op=19/\(i.r1=0\/i.rd=0)then[⟨2,i.rd,0,0,lo i.im⟩]
 else if 19<=i.op/\i.op<=27 then[⟨500+opn i.op,i.rd,i.r1,0,lo i.im⟩]
 else if 28<=i.op/\i.op<=45 then[⟨400+i.op,i.rd,i.r1,i.r2,0⟩]
 else if 46<=i.op/\i.op<=56 then[⟨600+i.op,i.rd,i.r1,i.r2,0⟩]
 else if i.op=58 then[⟨5,0,0,0,0⟩]else if i.op=59 then[⟨6,0,0,0,0⟩]else[]
structure Iv.In (i:Iv):Prop where
 o1:1<=i.op
 o2:i.op<=59
 d0:0<=i.rd
 d1:i.rd<32
 a0:0<=i.r1
 a1:i.r1<32
 b0:0<=i.r2
 b1:i.r2<32
theorem V6 (hd0:0<=rd)(hr:rd<32)(ho:op=19)(h:r1=0\/rd=0):je bf bt steps a op rd r1 r2 im [⟨2,rd,0,0,lo im⟩]:=fun q ov ok st z hh hl=>by
 rw[gp ov];have e:jK bf bt steps q ⟨2,rd,0,0,lo im⟩=q.put rd (lo im):=by unfold jK;rw[awm aq,awn rfl]
 have hE:gN (q.h.go a) q.m op (rg q.h r1.toNat) (rg q.h r2.toNat) (lo im)=⟨q.h.go a,q.m,[],[],some (fB 28 (rg q.h r1.toNat) (lo im))⟩:=by
  subst ho;unfold gN;rw[ak,ak,ak,ak,ak,eB];rfl
 have e2:q.put rd (lo im)=q.put rd (fB 28 (rg q.h r1.toNat) (lo im)):=by
  rcases h with rfl|rfl
  ·have:fB 28 (rg q.h (0:Int).toNat) (lo im)=lo im:=by
    show fB 28 (rg q.h 0) (lo im)=lo im
    rw[z,IP,Int.zero_add];exact Zi (W.lo _)
   rw[this]
  ·rw[mD q ab,mD q ab];rfl
 rw[e,e2];exact⟨qJ ok ov st hh hr (W.fB (ok.h.reg _) (W.lo _)) hE ab,qK (op:=op) (bf:=bf) (bt:=bt) (a:=a) ov⟩
theorem V7 (h:i.In):je bf bt steps a i.op i.rd i.r1 i.r2 i.im (EJ a i):=by
 obtain⟨o1,o2,d0,d1,a0,a1,b0,b1⟩:=h;unfold EJ;by_cases h0:i.op=1
 ·rw[awn h0];exact OV d1 h0
 rw[awm h0];by_cases h1:i.op=2
 ·rw[awn h1];exact Fj d1 h1
 rw[awm h1];by_cases h2:i.op=3
 ·rw[awn h2];exact O9 d1 h2
 rw[awm h2];by_cases h3:i.op=4
 ·rw[awn h3];exact Fv 32 ab ab d1 a1 h3
 rw[awm h3];by_cases h4:5<=i.op/\i.op<=10
 ·rw[awn h4];exact VI a1 b1 h4
 rw[awm h4];by_cases h5:11<=i.op/\i.op<=15
 ·rw[awn h5];exact VG d1 a1 h5
 rw[awm h5];by_cases h6:16<=i.op/\i.op<=18
 ·rw[awn h6];exact VH a1 b1 h6
 rw[awm h6];by_cases h7:i.op=19/\(i.r1=0\/i.rd=0)
 ·rw[awn h7];exact V6 d0 d1 h7.1 h7.2
 rw[awm h7];by_cases h8:19<=i.op/\i.op<=27
 ·rw[awn h8];exact OY d1 a1 h8
 rw[awm h8];by_cases h9:28<=i.op/\i.op<=45
 ·rw[awn h9];exact OX d1 a1 b1 h9
 rw[awm h9];by_cases h10:46<=i.op/\i.op<=56
 ·rw[awn h10];exact KI d1 a1 b1 h10
 rw[awm h10];by_cases h11:i.op=58
 ·rw[awn h11];exact KG h11
 rw[awm h11];by_cases h12:i.op=59
 ·rw[awn h12];exact Fs h12
 rw[awm h12];exact Fp ab
theorem mY {i}{nm}(hn:named i.op=nm)(h0:0<=nm)(hN:8<=nm\/i.n=0)(hd:(nm%2=1\/i.d=0)/\0<=i.d/\i.d<36)(ha:(nm/2%2=1\/i.a=0)/\0<=i.a/\i.a<36)(hb:(nm/4%2=1\/i.b=0)/\0<=i.b/\i.b<36):eT i=true:=by unfold eT bZ;rw[hn];simp only[arR,awD];exact⟨h0,hN,hd,ha,hb⟩
theorem afe (h:5<=op/\op<=10):named (100+op)=14:=by unfold named;rw[ak,ak,ak,ak,eB]
theorem aff (h:11<=op/\op<=15):named (200+op)=11:=by unfold named;rw[ak,ak,ak,ak,ak,eB]
theorem afg (h:16<=op/\op<=18):named (300+op)=14:=by unfold named;rw[ak,ak,ak,ak,ak,ak,eB]
theorem abo (h:28<=op/\op<=45):named (400+op)=7:=by unfold named;rw[ak,ak,ak,ak,ak,ak,ak,eB]
theorem abp (h:28<=op/\op<=45):named (500+op)=11:=by unfold named;rw[ak,ak,ak,ak,ak,ak,ak,ak,eB]
theorem abq (h:46<=op/\op<=56):named (600+op)=7:=by unfold named;rw[ak,ak,ak,ak,ak,ak,ak,ak,ak,eB]
theorem abr (op):28<=opn op/\opn op<=45:=by unfold opn;(repeat' split)<;>omega
def Mv.Fy (i:Mv):Prop:=eT i=true/\W i.n/\(0<=i.op/\i.op<=700)
theorem fG {P:Mv->Prop}{y}(h:P y):∀x∈[y],P x:=fun x hx=>by rw[arL]at hx;subst hx;exact h
theorem z1:(0:Int)<=0:=an
theorem z2:(0:Int)<36:=an
theorem z3 (n)(h:(0:Int)<=n):0<=n:=h
theorem z4 (n:Int)(h:n<=700):n<=700:=h
theorem z5:(32:Int)<36:=an
theorem PI {n}(d0:0<=rd)(d1:rd<32)(hn:W n):Mv.Fy ⟨2,rd,0,0,n⟩:=⟨mY (nm:=9) (by show named 2=9;decide) ab (by left;omega) ⟨.inl an,d0,by show rd<36;omega⟩ ⟨.inr rfl,z1,z2⟩ ⟨.inr rfl,z1,z2⟩,hn,z3 2 an,z4 2 an⟩
theorem IU (h:i.In):(∀x∈EJ a i,Mv.Fy x)/\(EJ a i).length<=3:=by
 obtain⟨o1,o2,d0,d1,a0,a1,b0,b1⟩:=h;have w0:W 0:=by unfold W;omega
 have hop:=abr i.op;have PK:∀n,W n->Mv.Fy ⟨2,i.rd,0,0,n⟩:=fun n hn=>PI d0 d1 hn
 unfold EJ;by_cases h0:i.op=1
 ·rw[awn h0];exact⟨fG (PK _ (W.lo _)),aq⟩
 rw[awm h0];by_cases h1:i.op=2
 ·rw[awn h1];exact⟨fG (PK _ (W.lo _)),aq⟩
 rw[awm h1];by_cases h2:i.op=3
 ·rw[awn h2];refine⟨fun x hx=>?_,aq⟩;rcases arG.1 hx with rfl|hx
  ·exact PK _ (W.lo _)
  ·refine fG (P:=Mv.Fy) ?_ x hx;exact⟨mY (nm:=8) (by show named 3=8;decide) ab (by left;omega) ⟨.inr rfl,z1,z2⟩ ⟨.inr rfl,z1,z2⟩ ⟨.inr rfl,z1,z2⟩,W.lo _,z3 3 an,z4 3 an⟩
 rw[awm h2];by_cases h3:i.op=4
 ·rw[awn h3];refine⟨fun x hx=>?_,aq⟩;rcases arG.1 hx with rfl|hx
  ·exact⟨mY (nm:=11) (by show named 528=11;decide) ab (by left;omega) ⟨.inl an,z3 32 an,z5⟩ ⟨.inl an,a0,by show i.r1<36;omega⟩ ⟨.inr rfl,z1,z2⟩,W.lo _,z3 528 an,z4 528 an⟩
  rcases arG.1 hx with rfl|hx
  ·exact PK _ (W.lo _)
  ·refine fG (P:=Mv.Fy) ?_ x hx;exact⟨mY (nm:=10) (by show named 4=10;decide) ab (by left;omega) ⟨.inr rfl,z1,z2⟩ ⟨.inl an,z3 32 an,z5⟩ ⟨.inr rfl,z1,z2⟩,w0,z3 4 an,z4 4 an⟩
 rw[awm h3];by_cases h4:5<=i.op/\i.op<=10
 ·rw[awn h4];exact⟨fG ⟨mY (nm:=14) (afe h4) ab (by left;omega) ⟨.inr rfl,z1,z2⟩ ⟨.inl an,a0,by show i.r1<36;omega⟩ ⟨.inl an,b0,by show i.r2<36;omega⟩,W.lo _,by show(0:Int)<=100+i.op;omega,by show 100+i.op<=700;omega⟩,aq⟩
 rw[awm h4];by_cases h5:11<=i.op/\i.op<=15
 ·rw[awn h5];exact⟨fG ⟨mY (nm:=11) (aff h5) ab (by left;omega) ⟨.inl an,d0,by show i.rd<36;omega⟩ ⟨.inl an,a0,by show i.r1<36;omega⟩ ⟨.inr rfl,z1,z2⟩,W.lo _,by show(0:Int)<=200+i.op;omega,by show 200+i.op<=700;omega⟩,aq⟩
 rw[awm h5];by_cases h6:16<=i.op/\i.op<=18
 ·rw[awn h6];exact⟨fG ⟨mY (nm:=14) (afg h6) ab (by left;omega) ⟨.inr rfl,z1,z2⟩ ⟨.inl an,a0,by show i.r1<36;omega⟩ ⟨.inl an,b0,by show i.r2<36;omega⟩,W.lo _,by show(0:Int)<=300+i.op;omega,by show 300+i.op<=700;omega⟩,aq⟩
 rw[awm h6];by_cases h7:i.op=19/\(i.r1=0\/i.rd=0)
 ·rw[awn h7];exact⟨fG (PK _ (W.lo _)),aq⟩
 rw[awm h7];by_cases h8:19<=i.op/\i.op<=27
 ·rw[awn h8];exact⟨fG ⟨mY (nm:=11) (abp hop) ab (by left;omega) ⟨.inl an,d0,by show i.rd<36;omega⟩ ⟨.inl an,a0,by show i.r1<36;omega⟩ ⟨.inr rfl,z1,z2⟩,W.lo _,by show(0:Int)<=500+opn i.op;omega,by show 500+opn i.op<=700;omega⟩,aq⟩
 rw[awm h8];by_cases h9:28<=i.op/\i.op<=45
 ·rw[awn h9];exact⟨fG ⟨mY (nm:=7) (abo h9) ab (by right;rfl) ⟨.inl an,d0,by show i.rd<36;omega⟩ ⟨.inl an,a0,by show i.r1<36;omega⟩ ⟨.inl an,b0,by show i.r2<36;omega⟩,w0,by show(0:Int)<=400+i.op;omega,by show 400+i.op<=700;omega⟩,aq⟩
 rw[awm h9];by_cases h10:46<=i.op/\i.op<=56
 ·rw[awn h10];exact⟨fG ⟨mY (nm:=7) (abq h10) ab (by right;rfl) ⟨.inl an,d0,by show i.rd<36;omega⟩ ⟨.inl an,a0,by show i.r1<36;omega⟩ ⟨.inl an,b0,by show i.r2<36;omega⟩,w0,by show(0:Int)<=600+i.op;omega,by show 600+i.op<=700;omega⟩,aq⟩
 rw[awm h10];by_cases h11:i.op=58
 ·rw[awn h11];exact⟨fG ⟨an,w0,an,an⟩,aq⟩
 rw[awm h11];by_cases h12:i.op=59
 ·rw[awn h12];exact⟨fG ⟨an,w0,an,an⟩,aq⟩
 rw[awm h12];exact⟨fun x hx=>(by cases hx),aq⟩
def aY (pc:Int):List Iv→Nat→List Mv
 | [],_=>[]
 |i::is,k=>⟨1,0,0,0,at4 pc k⟩::(EJ (at4 pc k) i++aY pc is (k+1))
theorem vJ (pc:Int)(i:Iv):∀(is:List Iv) (k:Nat),aY pc (is++[i]) k=aY pc is k++(⟨1,0,0,0,at4 pc (k+is.length)⟩::EJ (at4 pc (k+is.length)) i)
 | [],k=>by simp[aY]
 |j::is,k=>by
  show _::(_++aY pc (is++[i]) (k+1))=_
  rw[vJ pc i is (k+1)];simp[aY,show k+1+is.length=k+(is.length+1)by omega]
theorem V8 (a)(h:W a):Mv.Fy ⟨1,0,0,0,a⟩:=⟨mY (nm:=8) (by show named 1=8;decide) ab (by left;omega) ⟨.inr rfl,z1,z2⟩ ⟨.inr rfl,z1,z2⟩ ⟨.inr rfl,z1,z2⟩,h,z3 1 an,z4 1 an⟩
theorem jR (pc:Int):∀(is:List Iv) (k:Nat),(∀i∈is,i.In)→(∀x∈aY pc is k,Mv.Fy x)∧(aY pc is k).length≤4*is.length
 | [],k,_=>⟨fun x hx=>(by cases hx),by simp[aY]⟩
 |i::is,k,h=>by
  obtain⟨m1,m2⟩:=IU (a:=at4 pc k) (h i aq);obtain⟨c1,c2⟩:=jR pc is (k+1) (fun j hj=>h j (by simp[hj]));refine⟨fun x hx=>?_,?_⟩
  ·simp only[aY,arG,ar7]at hx;rcases hx with rfl|hx|hx
   ·exact V8 _ (zG pc k)
   ·exact m1 x hx
   ·exact c1 x hx
  ·simp only[aY,arM,ary];omega
theorem K9 (pc){is}(h:∀i∈is,i.In)(hl:is.length<=16):pO (aY pc is 0)=true:=by obtain⟨c1,c2⟩:=jR pc is 0 h;unfold pO;simp only[arR,awD,ar0];exact⟨ab,fun x hx=>(c1 x hx).1⟩
def vK (x:Int):Iv:=⟨Dc.aO x,Dc.jd (Dc.aM (Dc.aO x)) x,Dc.dh (Dc.aM (Dc.aO x)) x,Dc.cz (Dc.aM (Dc.aO x)) x,Dc.bU (Dc.aM (Dc.aO x)) x⟩
theorem Fz (h0:0<=x)(h1:x<4294967296)(hx:¬Dc.aO x=0):(vK x).In:=by have:=Re.zK h0 h1;have a:=ym (Dc.aM (Dc.aO x)) x;have b:=Pq (Dc.aM (Dc.aO x)) x;have c:=Pt (Dc.aM (Dc.aO x)) x;exact⟨by show 1<=Dc.aO x;omega,by show Dc.aO x<=59;omega,a.1,a.2,b.1,b.2,c.1,c.2⟩
end Ts
namespace Mc
open Mm Hh
variable{h:Hv}
structure Sh where
 hs:List Hv
 m:List UInt8
 out:List Int
 steps:Nat
variable{s:Sh}
def hN:Hv:=⟨[],0,false,0,1,0⟩
def near (x f k:Int):Bool:=decide (0<k/\f<x+4/\x<f+k)
def qO (x:Int) (ss:List (Int×Int)):Bool:=ss.any fun p=>near x p.1 p.2
def lF (ss:List (Int×Int)) (h:Hv):Hv:=if h.held=true/\qO h.aW ss=true then h.hold false 0 else h
def dL (k:Nat) (ss:List (Int×Int)) (hs:List Hv):List Hv:=hs.mapIdx fun j h=>if j=k then h else lF ss h
def at' (s:Sh) (k:Nat):Hv:=s.hs.getD k hN
def cO (s:Sh) (k:Nat):Sh:=⟨dL k (eF (at' s k) s.m).ax (s.hs.set k (eF (at' s k) s.m).h),(eF (at' s k) s.m).m,s.out++(eF (at' s k) s.m).out,s.steps+1⟩
def runs (s:Sh) (k:Nat):Nat→Sh
 |0=>s
 |n+1=>if(at' s k).state=0 then runs (cO s k) k n else s
def aP (s:Sh) (sc:List (Nat×Nat)):Sh:=sc.foldl (fun s p=>runs s p.1 p.2) s
theorem sG (h:¬(at' s k).state=0):∀n,runs s k n=s
 |0=>rfl
 |n+1=>awm h
theorem CW (k b:Nat):∀(a:Nat) (s:Sh),runs s k (a+b)=runs (runs s k a) k b
 |0,s=>by rw[arH];rfl
 |a+1,s=>by
  have e1:∀t,runs s k (t+1)=if(at' s k).state=0 then runs (cO s k) k t else s:=fun t=>rfl
  rw[Nat.succ_add,e1,e1];split
  ·rw[CW k b a]
  ·rename_i h;exact(sG h b).symm
theorem vL (s)(a b):aP s (a++b)=aP (aP s a) b:=asJ
theorem jM (s)(p)(r):aP s (p::r)=aP (runs s p.1 p.2) r:=rfl
structure Fit (s:Sh) (c n:Nat):Prop where
 len:s.hs.length=c
 mem:s.m.length=n
 ok:∀h∈s.hs,h.Ok/\may h=true
theorem Lb (ss)(o:h.Ok)(m:may h=true):(lF ss h).Ok/\may (lF ss h)=true:=by
 unfold lF;split
 ·refine⟨o.hold false (x:=0) ab ab,?_⟩;simp only[may,awD]at m ⊢;exact⟨m.1,fun _=>rfl,m.2.2⟩
 ·exact⟨o,m⟩
theorem eX (k)(ss)(hs):(dL k ss hs).length=hs.length:=by simp[dL]
theorem dU (k)(ss)(hs)(j):(dL k ss hs)[j]?=hs[j]?.map fun h=>if j=k then h else lF ss h:=by simp[dL,List.getElem?_mapIdx]
theorem dO {l:List Hv}(e:l[j]?=some h):h∈l:=arE e
theorem lG {c}(f:Fit s c n)(hk:k<c)(hr:(at' s k).state=0):Fit (cO s k) c n:=by
 have hl:k<s.hs.length:=by rw[f.len];exact hk
 have eh:s.hs[k]?=some (at' s k):=by unfold at';rw[arq hl];simp[List.getD,hl]
 obtain⟨ok,mk⟩:=f.ok _ (dO eh);have g:=mV (CE mk hr) s.m;have so:=OO ok s.m;refine⟨by simp[cO,eX,f.len],by simp only[cO];rw[g.2.1,f.mem],fun h hm=>?_⟩;obtain⟨j,hj⟩:=List.getElem?_of_mem hm;simp only[cO]at hj;rw[dU,asg]at hj;by_cases e:k=j
 ·subst e;simp only[if_true,hl,ar6]at hj;obtain rfl:=aws hj;exact⟨so,g.1⟩
 ·simp only[e,axF]at hj;cases hq:s.hs[j]? with
  |none=>rw[hq]at hj;cases hj
  |some q=>
   rw[hq]at hj;obtain⟨a,b⟩:=f.ok q (dO hq);have e2:¬j=k:=fun x=>e x.symm
   simp only[ar6,e2,axF]at hj;obtain rfl:=aws hj;exact Lb _ a b
theorem qP {c n k:Nat}(hk:k<c):∀(t:Nat) {s:Sh},Fit s c n→Fit (runs s k t) c n
 |0,s,f=>f
 |t+1,s,f=>by
  unfold runs;split
  ·exact qP hk t (lG f hk bo)
  ·exact f
theorem qQ {c n:Nat}:∀(sc:List (Nat×Nat)) {s:Sh},(∀p∈sc,p.1<c)→Fit s c n→Fit (aP s sc) c n
 | [],s,_,f=>f
 |p::r,s,h,f=>by
  rw[jM];exact qQ r (fun q hq=>h q (by simp[hq])) (qP (h p aq) p.2 f)
end Mc
namespace Mc
open Mm Hh Wd
variable{h:Hv}{s:Sh}
structure Wk where
 h:Hv
 m:List UInt8
 out:List Int
 ax:List (Int×Int)
 n:Nat
variable{x:Wk}
def IV (x:Wk):Wk:=⟨(eF x.h x.m).h,(eF x.h x.m).m,x.out++(eF x.h x.m).out,x.ax++(eF x.h x.m).ax,x.n+1⟩
def wk (x:Wk):Nat→Wk
 |0=>x
 |n+1=>if x.h.state=0 then wk (IV x) n else x
theorem zL (h:¬x.h.state=0):∀n,wk x n=x
 |0=>rfl
 |n+1=>awm h
theorem vM {x}(h:x.h.state=0)(n):wk x (n+1)=wk (IV x) n:=awn h
def tk (s:Sh) (k:Nat) (x:Wk):Sh:=⟨(dL k x.ax s.hs).set k x.h,x.m,s.out++x.out,s.steps+x.n⟩
def w0 (s:Sh) (k:Nat):Wk:=⟨at' s k,s.m,[],[],0⟩
theorem Ld (h):lF [] h=h:=by unfold lF;rw[awm];simp[qO]
theorem yn (a b)(h):lF (a++b) h=lF b (lF a h):=by
 unfold lF;have e:qO h.aW (a++b)=(qO h.aW a ||qO h.aW b):=by unfold qO;rw[atq]
 rw[e];by_cases hh:h.held=true
 ·cases ha:qO h.aW a with
  |true=>simp[hh,Hv.hold]
  |false=>simp[hh,ha]
 ·simp[hh]
theorem mZ (k)(hs):dL k [] hs=hs:=by
 apply asC;intro j;rw[dU];cases hs[j]? with
 |none=>rfl
 |some h=>simp[Ld]
theorem abt (hs:List Hv)(k):hs.set k (hs.getD k hN)=hs:=by
 apply asC;intro j;rw[asg];split
 ·rename_i e;subst e;split
  ·rename_i h;simp[List.getD,arq h]
  ·rename_i h;rw[asw ab]
 ·rfl
theorem afh (s)(k):tk s k (w0 s k)=s:=by unfold tk w0 at';simp only[mZ,abt,arP,asK]
theorem V9 (hk:k<s.hs.length)(x):cO (tk s k x) k=tk s k (IV x):=by
 have e:at' (tk s k x) k=x.h:=by
  unfold at' tk;simp[List.getD,asg,eX,hk]
 unfold cO;rw[e];unfold tk IV;simp only[asq,atb];congr 1;apply asC;intro j;rw[dU,asg,asg,asg,dU,dU];by_cases e:k=j
 ·subst e;simp[eX,hk]
 ·have e2:¬j=k:=fun q=>e q.symm
  simp only[e,e2,axF];cases s.hs[j]? with
  |none=>rfl
  |some h=>simp[yn]
theorem IW {s:Sh}{k:Nat}(hk:k<s.hs.length):∀(n:Nat) (x:Wk),runs (tk s k x) k n=tk s k (wk x n)
 |0,x=>rfl
 |n+1,x=>by
  have e:at' (tk s k x) k=x.h:=by
   unfold at' tk;simp[List.getD,asg,eX,hk]
  unfold runs wk;rw[e];split
  ·rw[V9 hk,IW hk n]
  ·rfl
theorem qR (hk:k<s.hs.length)(n):runs s k n=tk s k (wk (w0 s k) n):=by have:=IW hk n (w0 s k);rwa[afh]at this
def Ws (l:List UInt8) (p:Int×Int):Prop:=0<=p.1/\0<p.2/\p.1+p.2<=l.length
theorem FC {op}(ha:0<=a)(h:eP l op a=true):Ws l (a,(iD op:Nat)):=by unfold eP rR at h;rw[awD]at h;exact⟨ha,by simpa using h.1,h.2.2⟩
theorem Wu (o:h.Ok)(l){n}(ha:W a):∀p∈(gN h l op a b n).ax,Ws l p:=by
 unfold gN;intro p hp;split at hp
 ·simp at hp
 split at hp
 ·simp at hp
 split at hp
 ·simp at hp
 split at hp
 ·unfold bJ at hp;split at hp<;>simp at hp
 split at hp
 ·unfold aI at hp;split at hp
  ·simp at hp;subst hp;exact FC (W.lo _).1 bo
  ·simp at hp
 split at hp
 ·simp at hp
 split at hp
 ·simp at hp
 split at hp
 ·unfold aN at hp;split at hp
  ·unfold ik at hp;split at hp<;>simp at hp
  split at hp
  ·unfold fC at hp;split at hp
   ·split at hp
    ·simp at hp;subst hp;exact FC (op:=18) ha.1 (bK bo)
    ·simp at hp
   ·simp at hp
  ·unfold jv at hp;split at hp
   ·simp at hp;subst hp;exact FC (op:=18) ha.1 (bK bo)
   ·simp at hp
 split at hp
 ·unfold bE at hp;split at hp
  ·simp at hp
  ·split at hp<;>simp at hp
 split at hp<;>simp at hp
theorem zM (o:h.Ok)(l):(∀p∈(eF h l).ax,Ws l p)/\(eF h l).ax.length<=1:=by
 unfold eF qz ins;split
 ·split
  ·exact⟨fun p hp=>by simp at hp,aq⟩
  ·exact⟨Wu o l (W.reg o _),(Fb o l (W.reg o _) (W.reg o _) (W.lo _)).ax⟩
 ·exact⟨fun p hp=>by simp at hp,aq⟩
structure CX (x:Wk) (n:Nat):Prop where
 ok:x.h.Ok
 may:may x.h=true
 mem:x.m.length=n
 out:x.out.length<=x.n
 ax:x.ax.length<=x.n
 bd:∀p∈x.ax,0<=p.1/\0<p.2/\p.1+p.2<=n
theorem zN (o:CX x n)(hr:x.h.state=0):CX (IV x) n:=by
 have g:=mV (CE o.may hr) x.m;have s:=zM o.ok x.m;refine⟨OO o.ok x.m,g.1,g.2.1.trans o.mem,?_,?_,fun p hp=>?_⟩
 ·have:=g.2.2.2.1;have:=o.out;simp only[IV,ary];omega
 ·have:=s.2;have:=o.ax;simp only[IV,ary];omega
 ·rcases ar7.1 hp with h|h
  ·exact o.bd p h
  ·have:=s.1 p h;unfold Ws at this;rwa[o.mem]at this
theorem qV {c}(f:Fit s c n)(hk:k<c):CX (w0 s k) n:=by
 have hl:k<s.hs.length:=by rw[f.len];exact hk
 have eh:s.hs[k]?=some (at' s k):=by unfold at';rw[arq hl];simp[List.getD,hl]
 obtain⟨ok,mk⟩:=f.ok _ (dO eh);exact⟨ok,mk,f.mem,arA _,arA _,fun p hp=>by simp[w0]at hp⟩
def loses (k:Nat) (p:Int×Int) (j:Nat) (h:Hv):Bool:=decide (j≠k) && (h.held && near h.aW p.1 p.2)
def aX (k:Nat) (p:Int×Int) (hs:List Hv):Nat→List (Nat×Int)
 |0=>[]
 |j+1=>aX k p hs j++(if loses k p j (hs.getD j hN)=true then[(j,(hs.getD j hN).aW)]else[])
theorem oD (k:Nat)(p:Int×Int)(hs:List Hv):∀j,(aX k p hs j).length≤j
 |0=>arA _
 |j+1=>by
  have:=oD k p hs j;unfold aX;rw[ary];split
  ·simp;omega
  ·simp;omega
theorem CY (k:Nat)(p:Int×Int)(hs:List Hv):∀j,∀q∈aX k p hs j,q.1<j
 |0,q,h=>by simp[aX]at h
 |j+1,q,h=>by
  unfold aX at h;rcases ar7.1 h with h|h
  ·have:=CY k p hs j q h;omega
  ·split at h
   ·simp at h;subst h;simp
   ·simp at h
def drops (hs:List Hv) (ls:List (Nat×Int)):List Hv:=ls.foldl (fun hs l=>hs.set l.1 ((hs.getD l.1 hN).hold false 0)) hs
theorem yo (hs)(a b):drops hs (a++b)=drops (drops hs a) b:=asJ
theorem sH:∀(ls:List (Nat×Int)) (hs:List Hv),(drops hs ls).length=hs.length
 | [],hs=>rfl
 |l::r,hs=>by
  show(drops (hs.set l.1 _) r).length=_
  rw[sH r];simp
theorem vN (k:Nat)(p:Int×Int)(hs:List Hv):∀j,j≤hs.length→∀i,(drops hs (aX k p hs j))[i]?=if i<j then (dL k [p] hs)[i]? else hs[i]?
 |0,_,i=>by simp[aX,drops]
 |j+1,hj,i=>by
  have ih:=vN k p hs j ab;have ej:(drops hs (aX k p hs j)).getD j hN=hs.getD j hN:=by
   simp only[List.getD];rw[ih j,ak]
  have hjl:j<hs.length:=ab;have eg:hs[j]?=some (hs.getD j hN):=by rw[arq hjl];simp[List.getD,hjl]
  have el:(dL k [p] hs)[j]?=some (if loses k p j (hs.getD j hN)=true then(hs.getD j hN).hold false 0 else hs.getD j hN):=by
   rw[dU,eg,ar6];congr 1;generalize hs.getD j hN=h;unfold lF loses qO;by_cases e:j=k
   ·simp[e]
   ·simp[e]
  unfold aX;rw[yo];by_cases hl:loses k p j (hs.getD j hN)=true
  ·rw[awn hl]at el ⊢;show((drops hs (aX k p hs j)).set j (((drops hs (aX k p hs j)).getD j hN).hold false 0))[i]?=_
   rw[ej,asg];by_cases e:j=i
   ·subst e;rw[awn rfl,awn (by rw[sH];exact hjl),eB,el]
   ·rw[awm e,ih i];by_cases h2:i<j
    ·rw[awn h2,eB]
    ·rw[awm h2,ak]
  ·rw[awm hl]at el ⊢;show(drops hs (aX k p hs j))[i]?=_
   rw[ih i];by_cases e:i=j
   ·subst e;rw[ak,eB,el,eg]
   ·by_cases h2:i<j
    ·rw[awn h2,eB]
    ·rw[awm h2,ak]
theorem Le (k)(p)(hs):drops hs (aX k p hs hs.length)=dL k [p] hs:=by
 apply asC;intro i;rw[vN k p hs _ (arA _) i];split
 ·rfl
 ·rename_i h;rw[asw ab,asw (by rw[eX];omega)]
theorem PM (k)(a b)(hs):dL k (a++b) hs=dL k b (dL k a hs):=by
 apply asC;intro j;rw[dU,dU,dU];cases hs[j]? with
 |none=>rfl
 |some h=>
  simp only[ar6];split
  ·rfl
  ·rw[yn]
theorem FD {x f k n}(hx0:0<=x)(hx:x<4294967296)(h0:0<=f)(hk:0<k)(hf:f+k<=n)(hn:n<=4096):near x f k=(decide (x<f+k) && decide (f<x+4)):=by unfold near;by_cases a:x<f+k<;>by_cases b:f<x+4<;>simp[a,b,hk]
end Mc
namespace En
open Mm Wd Mi Bk Ts Kc
open Mc hiding Fit
open Hh hiding Rn
variable{l':List UInt8}{b:Bv}{s:Sh}
def FE (r:Mi.Rn):Wk:=⟨r.h,r.m,r.out,r.ax,r.n⟩
theorem PN (r):FE (b1 r)=IV (FE r):=rfl
theorem PO (di last steps:Int):∀(f k:Nat) (r:Mi.Rn),r.h.state=0→(r.n:Int)≤steps→∃c,c≤f∧FE (IC di last steps f k r)=wk (FE r) c∧(IC di last steps f k r).n=r.n+c∧((IC di last steps f k r).n:Int)≤steps∧(0<f→(r.n:Int)<steps→0<c)
 |0,k,r,_,hn=>⟨0,arA _,rfl,rfl,hn,fun h=>absurd h ab⟩
 |f+1,k,r,hs,hn=>by
  unfold IC;split
  ·rename_i hlt;split
   ·refine⟨1,ab,?_,rfl,?_,fun _ _=>ab⟩
    ·rw[PN,vM hs];rfl
    ·show((r.n+1:Nat):Int)<=steps
     omega
   ·rename_i hb;have hs2:(b1 r).h.state=0:=by
     unfold yh at hb;simp only[ate,awD,not_or,Classical.not_not]at hb;exact hb.1
    obtain⟨c,h1,h2,h3,h4,_⟩:=PO di last steps f (k+1) (b1 r) hs2 (by show((r.n+1:Nat):Int)<=steps;omega);refine⟨c+1,ab,?_,?_,h4,fun _ _=>ab⟩
    ·rw[h2,PN,vM hs]
    ·rw[h3];show r.n+1+c=r.n+(c+1)
     omega
  ·exact⟨0,ab,rfl,rfl,hn,fun _ h=>absurd h bo⟩
structure eD (l:List UInt8) (b:Bv):Prop where
 pos:0<b.is.length
 oW:0<=b.pc
 gP:b.pc<4294967296
 le:b.is.length<=(blk l b.pc 16 0).length
 eq:b.is=((blk l b.pc 16 0).take b.is.length).map vK
theorem eD.len (h:eD l b):b.is.length<=16:=arF h.le (gG l b.pc 16 0).1
theorem FH (h0:0<=pc)(h1:pc<4294967296)(hp:0<(blk l pc 16 0).length):eD l ⟨pc,(blk l pc 16 0).map vK⟩:=⟨by simpa using hp,h0,h1,aq,aq⟩
theorem pX (h:eD l b)(hl:l.length<=4096):VE l b.pc (b.pc+4*(b.is.length:Int)) b.is.length (fun j=>aT l 13 (at4 b.pc j)):=by have B:=VL hl h.oW h.gP (arD h.pos h.le);have hle:=h.le;have hf:=B.fit;exact⟨h.pos,h.oW,rfl,hl,ab,fun j hj=>B.at_ j ab,fun j hj=>B.ok j ab,fun j hj=>B.op j ab,fun j hj q=>by have:=B.fin j ab q;omega⟩
theorem pY (h:eD l b)(hj:j<b.is.length):b.is[j]?=some (vK (aT l 13 (at4 b.pc j)))/\¬Dc.aO (aT l 13 (at4 b.pc j))=0:=by obtain⟨f1,f2,_⟩:=(gG l b.pc 16 0).2 j (arD hj h.le);rw[arH]at f1 f2;refine⟨?_,(oz f1).2⟩;have e:=h.eq;rw[e,ar3,List.getElem?_take_of_lt hj,f2];rfl
theorem CZ (h:eD l b):∀i∈b.is,i.In:=fun i hi=>by obtain⟨j,hj⟩:=asv.1 hi;obtain⟨e,hx⟩:=pY h (arw.1 hj).1;rw[e]at hj;injection hj with hj;subst hj;have:=W.aT l 13 (at4 b.pc j);exact Fz this.1 this.2 hx
theorem C8 (pc:Int)(d:Iv):∀(is:List Iv) (k:Nat) (bd:Nat→List Mv),(∀j i,is[j]?=some i→bd (k+j)=EJ (at4 pc (k+j)) i)→aY pc is k=qI pc bd is.length k
 | [],k,bd,_=>rfl
 |i::is,k,bd,h=>by
  show _::(_++aY pc is (k+1))=_::(_++_)
  have h0:=h 0 i rfl;rw[asK]at h0;rw[C8 pc d is (k+1) bd (fun j i hi=>by
   have:=h (j+1) i (by simpa using hi);rwa[show k+(j+1)=k+1+j by omega]at this),h0]
theorem Lf (F:eD l b)(hl:l.length<=4096){h}(o:h.Ok)(hm:may h=true)(hs:h.state=0)(hp:h.pc=b.pc)(h0:0<=steps):Um (dI b.pc (b.pc+4*(b.is.length:Int)) steps h l (aY b.pc b.is 0)) (IC b.pc (b.pc+4*(b.is.length:Int)) steps b.is.length 0 (mstart h l)):=by
 have e:=C8 b.pc ⟨0,0,0,0,0⟩ b.is 0 _ fun j i hi=>by
  obtain⟨e,_⟩:=pY F (arw.1 hi).1;rw[e]at hi;injection hi with hi;subst hi;rw[arH]
 rw[e,<-arP (qI _ _ _ _)];refine KF (pX F hl) (fun j hj=>?_) (tail_nil _ _ _ _) o hm hs hp h0 (fun j hj=>rfl);have hx:=(pY F hj).2;have hb:=W.aT l 13 (at4 b.pc j);exact VF hx (V7 (i:=vK (aT l 13 (at4 b.pc j))) (Fz hb.1 hb.2 hx))
theorem Lg (F:eD l b):pO (aY b.pc b.is 0)=true:=K9 b.pc (CZ F) F.len
theorem Lh (hk:k<s.hs.length)(F:eD s.m b)(hl:s.m.length<=4096)(o:(at' s k).Ok)(hm:may (at' s k)=true)(hs:(at' s k).state=0)(hp:(at' s k).pc=b.pc)(h0:0<steps):∃c:Nat,0<c/\(c:Int)<=steps/\c<=16/\(dI b.pc (b.pc+4*(b.is.length:Int)) steps (at' s k) s.m (aY b.pc b.is 0)).n=c/\FE (dI b.pc (b.pc+4*(b.is.length:Int)) steps (at' s k) s.m (aY b.pc b.is 0))=wk (w0 s k) c/\ runs s k c=tk s k (FE (dI b.pc (b.pc+4*(b.is.length:Int)) steps (at' s k) s.m (aY b.pc b.is 0))):=by
 have E:=Lf F hl o hm hs hp (Int.le_of_lt h0);obtain⟨c,h1,h2,h3,h4,h5⟩:=PO b.pc (b.pc+4*(b.is.length:Int)) steps b.is.length 0 (mstart (at' s k) s.m) hs (by show((0:Nat):Int)<=steps;omega);have eW:FE (dI b.pc (b.pc+4*(b.is.length:Int)) steps (at' s k) s.m (aY b.pc b.is 0))=wk (w0 s k) c:=by
  have:FE (mstart (at' s k) s.m)=w0 s k:=rfl;rw[<-this,<-h2];unfold FE;rw[E.h,E.m,E.out,E.n,E.ax]
 have en:(IC b.pc (b.pc+4*(b.is.length:Int)) steps b.is.length 0 (mstart (at' s k) s.m)).n=c:=by rw[h3];show 0+c=c;omega
 refine⟨c,h5 F.pos (by show((0:Nat):Int)<steps;omega),by rw[en]at h4;exact h4,arF h1 F.len,by rw[E.n,en],eW,?_⟩;rw[qR hk,eW]
theorem IY (hn:n≤4096)(di last:Int):∀(c:Nat) (x:Wk),CX x n→∃t,(wk x c).ax=x.ax++t∧CX (wk x c) n∧(t.any (xD di last)=false→∀a,0≤a→di≤a→a+4≤last→aT (wk x c).m 13 a=aT x.m 13 a)
 |0,x,w=>⟨[],by show x.ax=_;simp,w,fun _ a _ _ _=>rfl⟩
 |c+1,x,w=>by
  by_cases h:x.h.state=0
  ·rw[vM h];obtain⟨t,e,w2,k2⟩:=IY hn di last c (IV x) (zN w h);refine⟨(eF x.h x.m).ax++t,by rw[e];show(x.ax++_)++t=_;rw[asq],w2,fun hno a h0 h1 h2=>?_⟩;rw[atq,Bool.or_eq_false_iff]at hno;rw[k2 hno.2 a h0 h1 h2];exact vG (IL w.ok x.m) (di:=di) (last:=last) (by rw[w.mem];exact hn) hno.1 h0 h1 h2
  ·rw[zL h];exact⟨[],aq,w,fun _ a _ _ _=>rfl⟩
theorem C9 (hl:l'.length=l.length)(pc:Int):∀(n k c:Nat),c≤(blk l pc n k).length→(∀j,j<c→aT l' 13 (at4 pc (k+j))=aT l 13 (at4 pc (k+j)))→(blk l' pc n k).take c=(blk l pc n k).take c∧c≤(blk l' pc n k).length
 |n,k,0,_,_=>aq
 |0,k,c+1,h,_=>absurd h (by simp[blk])
 |n+1,k,c+1,h,hw=>by
  have e0:aT l' 13 (at4 pc k)=aT l 13 (at4 pc k):=hw 0 ab;have eft:kJ l' (at4 pc k)=kJ l (at4 pc k):=by
   have eo:bR l' 13 (at4 pc k)=bR l 13 (at4 pc k):=by unfold bR;rw[hl]
   unfold kJ;rw[eo,e0]
  by_cases hf:kJ l (at4 pc k)=0
  ·cases hlo:eU (Dc.aO (aT l 13 (at4 pc k)))with
   |true=>
    rw[qH hf hlo]at h ⊢;rw[qH (eft.trans hf) (by rw[e0];exact hlo),e0];exact⟨rfl,h⟩
   |false=>
    rw[zI hf hlo]at h ⊢;rw[zI (eft.trans hf) (by rw[e0];exact hlo),e0];obtain⟨i1,i2⟩:=C9 hl pc n (k+1) c (by simpa using h) (fun j hj=>by
     have:=hw (j+1) ab;rwa[show k+(j+1)=k+1+j by omega]at this)
    refine⟨?_,by simpa using i2⟩;rw[atc,atc,i1]
  ·rw[qG hf]at h;exact absurd h aq
theorem FI (F:eD l b)(hl:l.length<=4096)(hlen:l'.length=l.length)(hw:∀a,0<=a->b.pc<=a->a+4<=b.pc+4*(b.is.length:Int)->aT l' 13 a=aT l 13 a):eD l' b:=by
 have B:=pX F hl;have hp:=F.oW;obtain⟨e1,e2⟩:=C9 hlen b.pc 16 0 b.is.length F.le (fun j hj=>by
  rw[arH];have:=B.at_ j ab;exact hw _ ab ab ab)
 exact⟨F.pos,F.oW,F.gP,e2,by rw[e1];exact F.eq⟩
theorem Wx {p}(hb:0<b.is.length)(h0:0<=p.1)(h1:0<p.2)(h2:p.1+p.2<=4096):hasB b p.1 (Wd.lo (p.1+p.2))=xD b.pc (b.pc+4*(b.is.length:Int)) p:=by
 have e:Wd.lo (p.1+p.2)=p.1+p.2:=asH ab ab;unfold hasB xD;rw[e,decide_eq_decide,Int.max_def,Int.min_def];constructor
 ·intro h;(repeat' split at h)<;>omega
 ·intro h;(repeat' split)<;>omega
theorem FJ {c}(hn:n<=4096)(w:CX (w0 s k) n)(F:eD s.m b)(hno:∀p∈(wk (w0 s k) c).ax,hasB b p.1 (Wd.lo (p.1+p.2))=false):eD (wk (w0 s k) c).m b:=by obtain⟨t,e,w2,hk⟩:=IY hn b.pc (b.pc+4*(b.is.length:Int)) c (w0 s k) w;have e2:(wk (w0 s k) c).ax=t:=e;have hm:s.m.length=n:=w.mem;refine FI F ab (w2.mem.trans hm.symm) (hk ?_);rw[List.any_eq_false];intro p hp;rw[<-e2]at hp;have bd:=w2.bd p hp;rw[<-Wx F.pos bd.1 bd.2.1 ab,hno p hp];simp
end En
namespace Kc
variable[Inhabited Hc.bH]
open Mm Ts
variable{room:Int}{bs:List Bv}{b:Bv}
def xE (bs:List Bv):Prop:=bs.Pairwise fun a b=>¬a.pc=b.pc
theorem tZ:∀{bs:List Bv} {k j:Nat},place pc bs k=((k+j:Nat):Int)→∃b,bs[j]?=some b∧b.pc=pc
 | [],k,j,h=>by unfold place at h;omega
 |b::r,k,j,h=>by
  unfold place at h;split at h
  ·rename_i e;have:j=0:=ab;subst this;exact⟨b,rfl,e⟩
  ·rcases gQ pc r (k+1)with h2|⟨i,x,h2,hx⟩
   ·omega
   ·have e:j=i+1:=ab;subst e;obtain⟨y,hy,he⟩:=tZ (bs:=r) (k:=k+1) (j:=i) h2;exact⟨y,by simpa using hy,he⟩
theorem qW {k}(h:k<(i:Int)):qD k bs i=bs:=by
 induction bs generalizing i with
 |nil=>rfl
 |cons b r ih=>
  unfold qD;rw[ak,ih ab]
theorem zO:∀(bs:List Bv) (k:Int) (i:Nat),(qD k bs i).Sublist bs
 | [],k,i=>List.Sublist.refl _
 |b::r,k,i=>by
  unfold qD;split
  ·exact(zO r k (i+1)).trans (List.sublist_cons_self b r)
  ·exact(zO r k (i+1)).cons_cons b
theorem IZ:∀{bs:List Bv} {i:Nat},xE bs→∀b∈qD (place pc bs i) bs i,¬b.pc=pc
 | [],i,_,b,h=>by cases h
 |c::r,i,hs,b,h=>by
  have hs2:xE r:=(atC.1 hs).2;have hc:=(atC.1 hs).1;by_cases e:c.pc=pc
  ·have ep:place pc (c::r) i=(i:Int):=by unfold place;rw[awn e]
   rw[ep]at h;unfold qD at h;rw[awn rfl,qW ab]at h;intro e2;exact hc b h (e.trans e2.symm)
  ·have ep:place pc (c::r) i=place pc r (i+1):=by rw[place,awm e]
   rw[ep]at h;unfold qD at h;have hne:¬(i:Int)=place pc r (i+1):=by
    rcases gQ pc r (i+1)with h2|⟨j,x,h2,_⟩<;>omega
   rw[awm hne]at h;rcases arG.1 h with rfl|h
   ·exact e
   ·exact IZ hs2 b h
theorem PQ {pc:Int}:∀{bs:List Bv} {i:Nat},0≤place pc bs i→(qD (place pc bs i) bs i).length+1≤bs.length
 | [],i,h=>by unfold place at h;omega
 |c::r,i,h=>by
  by_cases e:c.pc=pc
  ·have ep:place pc (c::r) i=(i:Int):=by unfold place;rw[awn e]
   rw[ep];unfold qD;rw[awn rfl,qW ab];simp
  ·have ep:place pc (c::r) i=place pc r (i+1):=by rw[place,awm e]
   rw[ep]at h ⊢;have:=PQ (pc:=pc) (bs:=r) (i:=i+1) h;unfold qD;have hne:¬(i:Int)=place pc r (i+1):=by
    rcases gQ pc r (i+1)with h2|⟨j,x,h2,_⟩<;>omega
   rw[awm hne];simp;omega
theorem xE.sub {a b}(h:xE b)(s:a.Sublist b):xE a:=h.sublist s
theorem xE.snoc (h:xE bs)(hn:∀x∈bs,¬x.pc=b.pc):xE (bs++[b]):=by unfold xE;rw[List.pairwise_append];exact⟨h,List.pairwise_singleton _ _,fun x hx y hy=>by rw[arL]at hy;subst hy;exact hn x hx⟩
structure Cok (room:Int) (bs:List Bv):Prop where
 len:(bs.length:Int)<=room
 abu:xE bs
theorem Wy {f}:∀b∈bM f t bs,hasB b f t=false:=fun b hb=>by have:=(atP.1 hb).2;simpa using this
theorem Cok.put (h:Cok room bs)(h0:0<=room)(b):Cok room (ku room bs b)/\(0<room->place b.pc (ku room bs b) 0=((ku room bs b).length:Int)-1/\(ku room bs b)[(ku room bs b).length-1]?=some b)/\(room=0->ku room bs b=[]):=by
 have hg:=IZ (pc:=b.pc) (i:=0) h.abu;have hsub:=zO bs (place b.pc bs 0) 0;have hlen:=Oy (place b.pc bs 0) bs 0;have hl:=h.len;have hone:0<=place b.pc bs 0->(qD (place b.pc bs 0) bs 0).length+1<=bs.length:=PQ;have S:=(h.abu.sub hsub).snoc hg;have fin:∀(l:List Bv),(∀x∈l,¬x.pc=b.pc)->place b.pc (l++[b]) 0=(((l++[b]).length:Nat):Int)-1/\(l++[b])[(l++[b]).length-1]?=some b:=fun l hn=>by
  refine⟨?_,aq⟩;have:=Ck (pc:=b.pc) (bs:=l++[b]) (j:=l.length) (k:=0) (x:=b) aq rfl (fun i y hi hy=>by
   rw[arO hi]at hy;exact hn y (arE hy))
  rw[this];simp
 unfold ku;generalize qD (place b.pc bs 0) bs 0=r at *
 split
 ·rename_i hgt;rw[ary,ar4]at hgt;cases r with
  |nil=>
   have e0:room=0:=by simp at hgt;omega
   refine⟨⟨aE,List.Pairwise.nil⟩,fun h=>absurd h ab,fun _=>rfl⟩
  |cons x r'=>
   have e:(x::r'++[b]).drop 1=r'++[b]:=rfl;rw[e];refine⟨⟨?_,(atC.1 S).2⟩,fun _=>fin r' (fun y hy=>hg y (by simp[hy])),fun e0=>?_⟩
   ·rw[ary,ar4];simp at hlen hgt;omega
   ·simp at hlen;omega
 ·rename_i hle;refine⟨⟨ab,S⟩,fun _=>fin r hg,fun e0=>?_⟩;rw[ary,ar4]at hle;omega
end Kc
namespace En
variable[Inhabited Hc.bH]
open Go.RowKit Mm Wd Mi Bk Ts Kc
open Mc hiding Fit
open Hh hiding Rn
variable{room pu sl:Int}{L:List Bv}{b:Bv}{l:List UInt8}{puts:Nat}
structure Ek (room:Int) (l:List UInt8) (L:List Bv) (pu sl:Int) (puts:Nat):Prop where
 cok:Cok room L
 fresh:∀b∈L,eD l b
 cnt:pu+sl+(L.length:Int)=puts
 p0:0<=pu
 s0:0<=sl
theorem Ek.nil (h:0<=room)(l):Ek room l [] 0 0 0:=⟨⟨by simpa using h,List.Pairwise.nil⟩,fun b hb=>(by cases hb),rfl,ab,ab⟩
theorem zP (h0:0<=x)(h1:x<=1000000000):wrap64 x=x:=by unfold wrap64;omega
theorem vO (hp:place b.pc L 0 = -1):ku room L b=(if room<((L++[b]).length:Int)then(L++[b]).drop 1 else L++[b])/\uy room pu L b=(if room<((L++[b]).length:Int)then wrap64 (pu+1)else pu):=by unfold ku uy;rw[hp,qW ab];exact⟨rfl,rfl⟩
theorem put_mem {x}(hp:place b.pc L 0 = -1)(hx:x∈ku room L b):x∈L\/x=b:=by
 rw[(vO (pu:=0) hp).1]at hx;have:x∈L++[b]:=by
  split at hx
  ·exact as7 hx
  ·exact hx
 simpa using this
theorem Ek.put (E:Ek room l L pu sl puts)(h0:0<=room)(hb:puts<=1000000)(F:eD l b)(hp:place b.pc L 0 = -1):Ek room l (ku room L b) (uy room pu L b) sl (puts+1):=by
 obtain⟨e1,e2⟩:=vO (room:=room) (pu:=pu) hp;have c:=E.cnt;have p0:=E.p0;have s0:=E.s0;refine⟨(E.cok.put h0 b).1,fun x hx=>?_,?_,?_,s0⟩
 ·rcases put_mem hp hx with h|rfl
  ·exact E.fresh x h
  ·exact F
 ·rw[e1,e2];split
  ·rw[zP ab ab,asz,ary,ar4];omega
  ·rw[ary,ar4];omega
 ·rw[e2];split
  ·rw[zP ab ab];omega
  ·exact p0
def dw (ss:List (Int×Int)) (L:List Bv):List Bv:=ss.foldl (fun L p=>bM p.1 (Wd.lo (p.1+p.2)) L) L
theorem FM (ss)(p)(L):dw (ss++[p]) L=bM p.1 (Wd.lo (p.1+p.2)) (dw ss L):=by unfold dw;rw[asJ];rfl
theorem oF:∀(ss:List (Int×Int)) (L:List Bv),(dw ss L).Sublist L
 | [],L=>List.Sublist.refl _
 |p::r,L=>(oF r _).trans List.filter_sublist
theorem Da:∀(ss:List (Int×Int)) (L:List Bv),∀b∈dw ss L,∀p∈ss,hasB b p.1 (Wd.lo (p.1+p.2))=false
 | [],L,b,hb,p,hp=>by cases hp
 |q::r,L,b,hb,p,hp=>by
  rcases arG.1 hp with rfl|hp
  ·exact Wy b ((oF r _).subset hb)
  ·exact Da r _ b hb p hp
theorem yt (ss)(p:Int×Int)(L):(bM p.1 (Wd.lo (p.1+p.2)) (dw ss L)).length<=(dw ss L).length:=List.length_filter_le _ _
theorem Ek.work {s}{c}(E:Ek room s.m L pu sl puts)(hn:n<=4096)(w:CX (w0 s k) n)(hs:0<=sl')(hc:sl'+((dw (wk (w0 s k) c).ax L).length:Int)=sl+(L.length:Int)):Ek room (wk (w0 s k) c).m (dw (wk (w0 s k) c).ax L) pu sl' puts:=by
 have sub:=oF (wk (w0 s k) c).ax L;have c0:=E.cnt;refine⟨⟨?_,E.cok.abu.sub sub⟩,fun b hb=>?_,ab,E.p0,hs⟩
 ·have:=sub.length_le;have:=E.cok.len;omega
 ·exact FJ hn w (E.fresh b (sub.subset hb)) (Da _ L b hb)
theorem Ek.same (E:Ek room l L pu sl puts)(hr:room<=64):L.length<=64:=by have:=E.cok.len;omega
theorem Zm (h:L[i]?=some b):0<=place b.pc L 0:=by
 rcases gQ b.pc L 0 with h2|⟨j,x,h2,_⟩
 ·exfalso;have:∀(l:List Bv) (k i:Nat),l[i]?=some b->0<=place b.pc l k:=by
   intro l;induction l with
   |nil=>intro k i h;simp at h
   |cons c r ih=>
    intro k i h;unfold place;split
    ·omega
    ·rename_i hc;cases i with
     |zero=>simp at h;subst h;exact absurd rfl hc
     |succ i=>exact ih (k+1) i (by simpa using h)
  have:=this L 0 i h;omega
 ·omega
theorem Ek.found (E:Ek room l L pu sl puts)(h:0<=place pc L 0):x9 pc L∈L/\(x9 pc L).pc=pc/\eD l (x9 pc L):=by
 rcases gQ pc L 0 with h2|⟨j,x,h2,hx⟩
 ·omega
 ·obtain⟨b,hb,hpc⟩:=tZ (k:=0) h2;have e:x9 pc L=b:=by
   unfold x9;rw[awn h,h2,show(((0+j:Nat):Int)).toNat=j by omega,List.getD,hb];rfl
  have hm:=arE hb;rw[e];exact⟨hm,hpc,E.fresh b hm⟩
structure Kept (room:Int) (l:List UInt8) (D:Prop) (L:List Bv) (pu sl:Int):Prop where
 cok:Cok room L
 fresh:∀b∈L,eD l b
 some:room=64->D->L≠[]\/¬pu=0\/¬sl=0
def Wz (m:List UInt8) (hs:List Hv) (ps:List (Int×Int)):Prop:=∃(p:Int×Int) (h:Hv),ps[0]?=some p/\0<p.2/\hs[p.1.toNat]?=some h/\h.state=0/\0<(blk m h.pc 16 0).length
end En
namespace Mc
open Mm Hh
variable{w':World}{ao:Option Addr}{α:Type}
structure Hs (w:World) (ao:Option Addr) (n:Nat) (hs:List Hv):Prop where
 len:hs.length=n
 ok:∀h∈hs,h.Ok
 spot:0<n->∃b o,ao=some ⟨b,o,none⟩/\b<w.heap.size/\∀i h,hs[i]?=some h->w.rangeAt b (o+i*37) (hL h)
structure Ps (w:World) (ao:Option Addr) (n:Nat) (ps:List (Int×Int)):Prop where
 len:ps.length=n
 spot:0<n->∃b o,ao=some ⟨b,o,none⟩/\b<w.heap.size/\∀i p,ps[i]?=some p->w.cell? ⟨b,o+i*2,none⟩=some (int i64 p.1)/\w.cell? ⟨b,o+i*2+1,none⟩=some (int i64 p.2)
theorem Hs.of {hs}(h:Hs w ao n hs)(g:Gr w w'):Hs w' ao n hs:=
 ⟨h.len,h.ok,fun hn=>by
  obtain⟨b,o,e,hb,hc⟩:=h.spot hn;exact⟨b,o,e,arD hb g.size,fun i q hq j v hv=>(g.cell _ (by exact hb)).trans (hc i q hq j v hv)⟩⟩
theorem Ps.of (h:Ps w ao n ps)(g:Gr w w'):Ps w' ao n ps:=
 ⟨h.len,fun hn=>by
  obtain⟨b,o,e,hb,hc⟩:=h.spot hn;exact⟨b,o,e,arD hb g.size,fun i q hq=>⟨(g.cell _ (by exact hb)).trans (hc i q hq).1,(g.cell _ (by exact hb)).trans (hc i q hq).2⟩⟩⟩
def jS (c:Nat) (p:Int×Int):Bool:=decide (0<=p.1/\p.1<c/\0<=p.2/\p.2<=400)
def wrong (m:List UInt8) (hs:List Hv) (ps:List (Int×Int)):Int:=if 4096<m.length\/hs.length<1\/4<hs.length then 2 else if hs.all may=false then 2 else if 300<ps.length then 1 else if ps.all (jS hs.length)=false then 3 else 0
theorem qX (f:α->Bool)(l:List α)(k)(x:α)(h:l[k]?=some x):(l.take (k+1)).all f=((l.take k).all f && f x):=by rw[arW,h];simp
theorem all_false {f:α->Bool}{l:List α}{x:α}(h:l[k]?=some x)(hx:f x=false):l.all f=false:=by rw[List.all_eq_false];exact⟨x,arE h,by simp[hx]⟩
end Mc
namespace Mc
open Mm Hh
variable{w:World}{g i j n:Nat}{hs:List Hv}{h h':Hv}
def hC (hs:List Hv):List Value:=hs.flatMap hL
theorem p8:∀{hs:List Hv},(∀h∈hs,h.Ok)→(hC hs).length=hs.length*37
 | [],_=>rfl
 |h::r,o=>by
  have ih:=p8 (hs:=r) (fun q hq=>o q (by simp[hq]));unfold hC at ih ⊢;simp only[arZ,ary,arM,aF (o h aq),ih];omega
theorem FO:∀{hs:List Hv},(∀h∈hs,h.Ok)→∀{i j:Nat} {h:Hv},hs[i]?=some h→j<37→(hC hs)[i*37+j]?=(hL h)[j]?
 | [],_,i,j,h,hi,_=>by simp at hi
 |q::r,o,0,j,h,hi,hj=>by
  simp at hi;subst hi;unfold hC;rw[arZ,asY,arH,arO (by rw[aF (o q aq)];exact hj)]
 |q::r,o,i+1,j,h,hi,hj=>by
  have ih:=FO (hs:=r) (fun q hq=>o q (by simp[hq])) (i:=i) (j:=j) (h:=h) (by simpa using hi) hj;have lq:=aF (o q aq);unfold hC at ih ⊢;rw[arZ,arK ab,lq,<-ih];congr 1;omega
theorem PR:∀{hs:List Hv},(∀h∈hs,h.Ok)→∀{i j:Nat} {h h':Hv} {v:Value},hs[i]?=some h→j<37→(hL h).set j v=hL h'→(hC hs).set (i*37+j) v=hC (hs.set i h')
 | [],_,i,j,h,h',v,hi,_,_=>by simp at hi
 |q::r,o,0,j,h,h',v,hi,hj,e=>by
  simp at hi;subst hi;unfold hC;rw[arZ,asY,arH,asF _ _ (by rw[aF (o q aq)];exact hj),e];rfl
 |q::r,o,i+1,j,h,h',v,hi,hj,e=>by
  have ih:=PR (hs:=r) (fun q hq=>o q (by simp[hq])) (i:=i) (j:=j) (h:=h) (h':=h') (v:=v) (by simpa using hi) hj e;have lq:=aF (o q aq);unfold hC at ih ⊢;rw[arZ,arX _ _ ab,lq,show(i+1)*37+j-37=i*37+j by omega,ih];rfl
structure bY (w:World) (g:Nat) (hs:List Hv):Prop where
 ok:∀h∈hs,h.Ok
 row:∃rest:List Value,w.heap[g]?=some (.cells (hC hs++rest).toArray 43 (0,0))
theorem bY.cell (r:bY w g hs)(hi:hs[i]?=some h)(hj:j<37):w.cell? ⟨g,i*37+j,none⟩=(hL h)[j]?:=by obtain⟨rest,e⟩:=r.row;have li:=(arw.1 hi).1;rw[cr e,arB,arO (by rw[p8 r.ok];omega),FO r.ok hi hj]
theorem bY.range (r:bY w g hs)(hi:hs[i]?=some h):w.rangeAt g (i*37) (hL h):=fun j v hv=>by
 have hj:j<37:=by have:=(arw.1 hv).1;rwa[aF (r.ok h (arE hi))]at this
 rw[r.cell hi hj];exact hv
theorem bY.fz (r:bY w g hs)(j):w.frozen? ⟨g,j,none⟩=false:=by obtain⟨rest,e⟩:=r.row;exact awM _ _ j _ _ e
theorem bY.there (r:bY w g hs)(hi:hs[i]?=some h):w.there g (i*37) 37:=fun j hj=>by refine⟨?_,r.fz _⟩;rw[r.cell hi hj,arq (by rw[aF (r.ok h (arE hi))];exact hj)];rfl
theorem PS (o:∀h∈hs,h.Ok)(i)(o':h'.Ok):∀h∈hs.set i h',h.Ok:=fun h hm=>by
 rcases List.mem_or_eq_of_mem_set hm with h1|rfl
 ·exact o h h1
 ·exact o'
theorem bY.set (r:bY w g hs){v}(hi:hs[i]?=some h)(hj:j<37)(e:(hL h).set j v=hL h')(o':h'.Ok):bY (w.setCell ⟨g,i*37+j,none⟩ v) g (hs.set i h'):=by obtain⟨rest,q⟩:=r.row;have li:=(arw.1 hi).1;refine⟨PS r.ok i o',rest,?_⟩;rw[hss q];simp only[arp];rw[asF _ _ (by rw[p8 r.ok];omega),PR r.ok hi hj e]
theorem o8 {t:Nat}(g:Nat):∀(vs:List Value) (o:Nat) (w:World) (cs:List Value),w.heap[g]?=some (.cells cs.toArray t (0,0))→o+vs.length≤cs.length→(w.setCells g o vs).heap[g]?=some (.cells (cs.take o++vs++cs.drop (o+vs.length)).toArray t (0,0))
 | [],o,w,cs,h,_=>by simp[World.setCells,h]
 |v::r,o,w,cs,h,hl=>by
  rw[World.setCells];have h1:=awE w g o _ _ v h;simp only[arp]at h1;simp only[arM]at hl;rw[o8 g r (o+1) _ (cs.set o v) h1 aE];have e1:(cs.set o v).take (o+1)=cs.take o++[v]:=by
   rw[arW,List.take_set,List.set_eq_of_length_le aE];simp[show o<cs.length by omega]
  have e2:(cs.set o v).drop (o+1+r.length)=cs.drop (o+(r.length+1)):=by
   rw[List.drop_set_of_lt ab];congr 1;omega
  rw[e1,e2];simp only[arM,asq,arU,arT]
theorem PU:∀{hs:List Hv},(∀h∈hs,h.Ok)→∀{i:Nat} {h':Hv},i<hs.length→h'.Ok→(hC hs).take (i*37)++hL h'++(hC hs).drop (i*37+37)=hC (hs.set i h')
 | [],_,i,h',hi,_=>by simp at hi
 |q::r,o,0,h',hi,o'=>by
  have lq:=aF (o q aq);unfold hC;rw[arZ,asY,asX,arT,arH,List.drop_append,lq,List.drop_eq_nil_of_le ab];simp[art]
 |q::r,o,i+1,h',hi,o'=>by
  have ih:=PU (hs:=r) (fun q hq=>o q (by simp[hq])) (i:=i) (h':=h') (by simpa using hi) o';have lq:=aF (o q aq);unfold hC at ih ⊢;rw[arZ,List.take_append,List.drop_append,lq,ar5 ab,List.drop_eq_nil_of_le ab,arT,show(i+1)*37-37=i*37 by omega,show(i+1)*37+37-37=i*37+37 by omega,ars,arZ,<-ih];simp only[asq]
theorem bY.put (r:bY w g hs)(hi:i<hs.length)(o':h'.Ok):bY (w.setCells g (i*37) (hL h')) g (hs.set i h'):=by obtain⟨rest,q⟩:=r.row;have lc:=p8 r.ok;have l':=aF o';refine⟨PS r.ok i o',rest,?_⟩;rw[o8 g (hL h') (i*37) w _ q (by rw[ary,lc,l'];omega),l',asS (by rw[lc];omega),as5 (by rw[lc];omega),<-PU r.ok hi o'];simp only[asq]
theorem bY.own {base cap}(o:∀h∈hs,h.Ok)(h:w.ownsRow base 43 37 (.slice (some ⟨g,0,none⟩) n cap) n (hC hs)):bY w g hs:=by
 obtain⟨_,hc⟩:=h;rcases hc with⟨h0,_⟩|⟨g',cap',cur,hv,hb,hg,hn,hm,hs',htake⟩
 ·cases h0
 ·simp only[axB,awz,Addr.mk.injEq,aw7,and_true]at hv;obtain⟨rfl,rfl⟩:=hv;refine⟨o,cur.toList.drop (n*37),?_⟩;rw[<-htake,asr];exact hg
theorem FP (hs):∀u∈hC hs,u.oneCell'=true:=by intro u hu;obtain⟨h,_,hm⟩:=atH.1 hu;have:=atn.1 (rW h) u (by simpa[hA]using hm);exact this
theorem Hs.src (h:Hs w (some ad) n hs):∀j u,(hC hs)[j]?=some u->w.cell? (ad.add j)=some u:=by
 intro j u hj;have hl:=p8 h.ok;have hjl:j<hs.length*37:=by rw[<-hl];exact(arw.1 hj).1
 have hlen:=h.len;obtain⟨b,o,e,_,hc⟩:=h.spot ab;obtain rfl:=aws e;have hi:j/37<hs.length:=ab;have e1:=arq hi;have g:=FO h.ok (j:=j%37) e1 ab;rw[show j/37*37+j%37=j by omega,hj]at g;have:=hc _ _ e1 (j%37) u g.symm;rw[cK];rwa[show o+j/37*37+j%37=o+j by omega]at this
end Mc
namespace Mc
open Mm Hh
theorem iH:(prog.info? 43).map (·.size)=some 37:=al
end Mc
end Go.Proofs.YtiadhbmnfjfioaaGreatDoor
