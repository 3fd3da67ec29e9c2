/- ours -/
import Derived.Test.YtiadhbmnfjfioaaGreatDoorX07
set_option linter.unusedVariables false
set_option linter.unusedSimpArgs false
set_option maxHeartbeats 8000000
set_option maxRecDepth 100000
set_option linter.unusedSectionVars false
namespace Go.Proofs.YtiadhbmnfjfioaaGreatDoor
namespace Ts
open Mm Wd Mi Bk
open Hh hiding Rn

def iy (bf bt steps a op rd r1 r2 im:Int) (body:List Mv):Prop:=∀q:Mi.Rn,q.over=false->q.Ok->q.h.state=0->rg q.h 0=0->q.here=a->q.m.length<=4096->
 Fit bf bt a q (ins (q.h.go a) q.m op rd r1 r2 im) (bB bf bt steps q body)/\((bB bf bt steps q body).over=true->eB op=true\/¬(ins (q.h.go a) q.m op rd r1 r2 im).h.state=0)
theorem Sk {bf bt steps a x:Int}{body:List Mv}(hx:¬Dc.aO x=0)(h:iy bf bt steps a (Dc.aO x) (Dc.iF (Dc.aJ (Dc.aO x)) x) (Dc.bZ (Dc.aJ (Dc.aO x)) x) (Dc.bV (Dc.aJ (Dc.aO x)) x) (Dc.bS (Dc.aJ (Dc.aO x)) x) body):Df bf bt steps a x body:=fun q h1 h2 h3 h4 h5 h6=>by have:=h q h1 h2 h3 h4 h5 h6;unfold oW;rw[at6 hx];exact this
theorem fF {bf bt steps:Int}{q:Mi.Rn}(ho:q.over=false)(i:Mv):bB bf bt steps q [i]=ja bf bt steps q i:=by rw[bB,at6 (by simp[ho]),bB]
theorem qK {bf bt a:Int}{q q':Mi.Rn}{S:Sv}{X:Hv}{o:List Int}{s:List (Int×Int)}(hS:S=⟨X.go (lo (a+4)),q'.m,o,s⟩)(hq:q'.Ok)(ov:q'.over=false)(hh:q'.here=a)(hX:q'.h=X)(hpc:X.pc=q.h.pc)(hst:X.state=0)(ho:q'.out=q.out++o)(hs:q'.av=q.av++s)(hn:q'.n=q.n)(hw:q'.own=(q.own ||s.any (meet bf bt))):Fit bf bt a q S q':=by subst hS;exact⟨hq,rfl,ho,hs,hn,hw,fun _=>hh,.inr ⟨ov,hst,rfl,by rw[hX];show X=(X.go _).go _;rw[Au,<-hpc,WM]⟩⟩
theorem sI {bf bt a:Int}{q q':Mi.Rn}{S:Sv}{o:List Int}{s:List (Int×Int)}(hS:S=⟨q'.h,q'.m,o,s⟩)(hq:q'.Ok)(ov:q'.over=true)(ho:q'.out=q.out++o)(hs:q'.av=q.av++s)(hn:q'.n=q.n)(hw:q'.own=(q.own ||s.any (meet bf bt))):Fit bf bt a q S q':=by subst hS;exact⟨hq,rfl,ho,hs,hn,hw,fun h=>(by rw[ov]at h;cases h),.inl ⟨ov,rfl⟩⟩
theorem Md (Y:Hv)(a:Int)(r:Nat)(x:Option Int):(Y.go a).put r x=(Y.put r x).go a:=by
 cases x with
 |none=>rfl
 |some x=>
  show(Y.go a).set r x=(Y.set r x).go a
  unfold Hv.set;split<;>rfl
theorem qL (Y:Hv)(r:Nat)(x:Option Int):(Y.put r x).state=Y.state/\(Y.put r x).pc=Y.pc:=by
 cases x with
 |none=>exact⟨rfl,rfl⟩
 |some x=>
  show(Y.set r x).state=Y.state/\(Y.set r x).pc=Y.pc
  unfold Hv.set;split<;>exact⟨rfl,rfl⟩
theorem uf {h Y:Hv}{l m:List UInt8}{op rd r1 r2 im a:Int}{o:List Int}{s:List (Int×Int)}{res:Option Int}(hE:fT (h.go a) l op (rg h r1.toNat) (rg h r2.toNat) (lo im)=⟨Y.go a,m,o,s,res⟩)(hY:Y.state=0)(hx:¬op=3/\¬op=4/\(op<5\/10<op)):ins (h.go a) l op rd r1 r2 im=⟨(Y.put rd.toNat res).go (lo (a+4)),m,o,s⟩:=by
 have e:ins (h.go a) l op rd r1 r2 im=done (fT (h.go a) l op (rg h r1.toNat) (rg h r2.toNat) (lo im)) rd.toNat (qD (h.go a) op (rg h r1.toNat) (rg h r2.toNat) (lo im)):=rfl;have en:qD (h.go a) op (rg h r1.toNat) (rg h r2.toNat) (lo im)=lo (a+4):=by
  unfold qD;rw[at6 hx.2.1,at6 (by rw[Aj hx.2.2];simp[hx.1])];rfl
 rw[e,hE,en];unfold done;simp only;rw[Md];unfold Hv.on;rw[at7 (by show(Y.put rd.toNat res).state=0;rw[(qL _ _ _).1];exact hY),Au]
theorem AB {h Y:Hv}{l m:List UInt8}{op rd r1 r2 im a:Int}{o:List Int}{s:List (Int×Int)}(hE:fT (h.go a) l op (rg h r1.toNat) (rg h r2.toNat) (lo im)=⟨Y.go a,m,o,s,none⟩)(hY:¬Y.state=0):ins (h.go a) l op rd r1 r2 im=⟨Y.go a,m,o,s⟩:=by have e:ins (h.go a) l op rd r1 r2 im=done (fT (h.go a) l op (rg h r1.toNat) (rg h r2.toNat) (lo im)) rd.toNat (qD (h.go a) op (rg h r1.toNat) (rg h r2.toNat) (lo im)):=rfl;rw[e,hE];unfold done Hv.put Hv.on;simp only;rw[at6 (by show¬Y.state=0;exact hY)]
theorem fV (q:Mi.Rn){k:Int}(h:k<32):q.get k=rg q.h k.toNat:=by unfold Rn.get;rw[at7 h]
theorem kN (q:Mi.Rn){k:Int}(h:k<32)(x:Int):q.put k x={ q with h:=q.h.set k.toNat x }:=by unfold Rn.put;rw[ak]
theorem pE {bf bt a op rd r1 r2 im x:Int}{q:Mi.Rn}(ok:q.Ok)(ov:q.over=false)(st:q.h.state=0)(hh:q.here=a)(hr:rd<32)(wx:W x)(hE:fT (q.h.go a) q.m op (rg q.h r1.toNat) (rg q.h r2.toNat) (lo im)=⟨q.h.go a,q.m,[],[],some x⟩)(hx:¬op=3/\¬op=4/\(op<5\/10<op)):Fit bf bt a q (ins (q.h.go a) q.m op rd r1 r2 im) (q.put rd x):=by
 have WQ:=ok.put rd wx;rw[kN q hr]at WQ ⊢;refine qK (X:=q.h.set rd.toNat x) (o:=[]) (s:=[]) (uf (res:=some x) hE st hx) WQ ov hh rfl ?_ ?_ (by simp) (by simp) rfl (by simp)
 ·exact(qL q.h rd.toNat (some x)).2
 ·exact(qL q.h rd.toNat (some x)).1.trans st
theorem pF {bf bt a op rd x:Int}{q:Mi.Rn}{P:Prop}(ov:q.over=false):(q.put rd x).over=true->P:=fun h=>by
 have:(q.put rd x).over=q.over:=by unfold Rn.put;split<;>rfl
 rw[this,ov]at h;cases h
theorem jg {bf bt a op rd r1 r2 im c:Int}{q:Mi.Rn}(ok:q.Ok)(hh:q.here=a)(hE:fT (q.h.go a) q.m op (rg q.h r1.toNat) (rg q.h r2.toNat) (lo im)=⟨(q.h.trap c).go a,q.m,[],[],none⟩):Fit bf bt a q (ins (q.h.go a) q.m op rd r1 r2 im) (q.trap c)/\¬(ins (q.h.go a) q.m op rd r1 r2 im).h.state=0:=by
 have e:=AB (rd:=rd) hE (by simp[Hv.trap]);refine⟨sI (o:=[]) (s:=[]) ?_ (ok.trap c) rfl (by simp[Rn.trap]) (by simp[Rn.trap]) rfl (by simp[Rn.trap]),?_⟩
 ·rw[e];show _=(⟨(q.h.trap c).go q.here,q.m,[],[]⟩:Sv)
  rw[hh]
 ·rw[e];simp[Hv.trap,Hv.go]
section
variable {bf bt steps a op rd r1 r2 im :Int}
theorem AJ (x:Int)(hr:rd<32)(wx:W x)(hE:∀(h:Hv) (l:List UInt8),fT (h.go a) l op (rg h r1.toNat) (rg h r2.toNat) (lo im)=⟨h.go a,l,[],[],some x⟩)(hx:¬op=3/\¬op=4/\(op<5\/10<op)):iy bf bt steps a op rd r1 r2 im [⟨2,rd,0,0,x⟩]:=fun q ov ok st z hh hl=>by
 rw[fF ov];have e:ja bf bt steps q ⟨2,rd,0,0,x⟩=q.put rd x:=by unfold ja;rw[at6 (by simp),at7 rfl]
 rw[e];exact⟨pE ok ov st hh hr wx (hE _ _) hx,pF (op:=op) (bf:=bf) (bt:=bt) (a:=a) ov⟩
theorem Me (hr:rd<32)(ho:op=1):iy bf bt steps a op rd r1 r2 im [⟨2,rd,0,0,lo im⟩]:=AJ _ hr (W.lo _) (fun h l=>by subst ho;unfold fT;rw[at7 rfl]) (by omega)
theorem Di (hr:rd<32)(ho:op=2):iy bf bt steps a op rd r1 r2 im [⟨2,rd,0,0,lo (a+lo im)⟩]:=AJ _ hr (W.lo _) (fun h l=>by subst ho;unfold fT;rw[ak,at7 rfl];rfl) (by omega)
theorem Mf (hr:rd<32)(h1:r1<32)(h2:r2<32)(ho:28<=op/\op<=45):iy bf bt steps a op rd r1 r2 im [⟨400+op,rd,r1,r2,0⟩]:=fun q ov ok st z hh hl=>by rw[fF ov,gM (c:=400) (k:=op) (by omega) (by omega) rfl (by omega)];unfold vH;rw[ak,ak,ak,at7 rfl];simp only[fV q h1,fV q h2];refine⟨pE ok ov st hh hr (W.eT (ok.h.reg _) (ok.h.reg _)) ?_ (by omega),pF (op:=op) (bf:=bf) (bt:=bt) (a:=a) ov⟩;unfold fT;rw[ak,ak,ak,ak,ak,ak,at7 ho]
theorem Mg (hr:rd<32)(h1:r1<32)(ho:19<=op/\op<=27):iy bf bt steps a op rd r1 r2 im [⟨500+opn op,rd,r1,0,lo im⟩]:=fun q ov ok st z hh hl=>by
 have hop:28<=opn op/\opn op<=45:=by unfold opn;(repeat' split)<;>omega
 rw[fF ov,gM (c:=500) (k:=opn op) (by omega) (by omega) rfl (by omega)];unfold vH;rw[ak,ak,ak,ak,at7 rfl];simp only[fV q h1];refine⟨pE ok ov st hh hr (W.eT (ok.h.reg _) (W.lo _)) ?_ (by omega),pF (op:=op) (bf:=bf) (bt:=bt) (a:=a) ov⟩;unfold fT;rw[ak,ak,ak,ak,ak,at7 ho]
theorem Sl (hr:rd<32)(h1:r1<32)(ho:11<=op/\op<=15):iy bf bt steps a op rd r1 r2 im [⟨200+op,rd,r1,0,lo im⟩]:=fun q ov ok st z hh hl=>by
 rw[fF ov,gM (c:=200) (k:=op) (by omega) (by omega) rfl (by omega)];unfold vH;rw[ak,at7 rfl];simp only[fV q h1];have hE:fT (q.h.go a) q.m op (rg q.h r1.toNat) (rg q.h r2.toNat) (lo im)=bF (q.h.go a) q.m op (lo (rg q.h r1.toNat+lo im)):=by
  unfold fT;rw[ak,ak,ak,at7 ho]
 unfold Af;by_cases hk:bM q.m op (lo (rg q.h r1.toNat+lo im))=true
 ·rw[at7 hk];refine⟨pE ok ov st hh hr (W.aN _ _ _) ?_ (by omega),pF (op:=op) (bf:=bf) (bt:=bt) (a:=a) ov⟩;rw[hE];unfold bF;rw[at7 hk]
 ·rw[at6 hk];have t:=jg (bf:=bf) (bt:=bt) (rd:=rd) (c:=3) ok hh (r1:=r1) (r2:=r2) (im:=im) (op:=op) (by rw[hE];unfold bF;rw[at6 hk];rfl);exact⟨t.1,fun _=>.inr t.2⟩
theorem yt {l:List UInt8}{p:Int}(hl:l.length<=4096)(hp:0<=p)(h:dX l op p=true):hits bf bt p (gG op)=meet bf bt (p,((gG op:Nat):Int)):=by
 have hz:p+(gG op:Int)<=l.length:=by
  unfold dX qy at h;simp only[auk]at h;exact h.2.2
 exact wM hp (by omega) (qz _)
theorem Sm (h1:r1<32)(h2:r2<32)(ho:16<=op/\op<=18):iy bf bt steps a op rd r1 r2 im [⟨300+op,0,r1,r2,lo im⟩]:=fun q ov ok st z hh hl=>by
 rw[fF ov,gM (c:=300) (k:=op) (by omega) (by omega) rfl (by omega)];unfold vH;rw[ak,ak,at7 rfl];simp only[fV q h1,fV q h2];have hE:fT (q.h.go a) q.m op (rg q.h r1.toNat) (rg q.h r2.toNat) (lo im)=aH (q.h.go a) q.m op (lo (rg q.h r1.toNat+lo im)) (rg q.h r2.toNat):=by
  unfold fT;rw[ak,ak,ak,ak,at7 ho]
 unfold tV;by_cases hk:dX q.m op (lo (rg q.h r1.toNat+lo im))=true
 ·rw[at7 hk];have hm:=yt (bf:=bf) (bt:=bt) hl (W.lo _).1 hk;refine⟨qK (X:=q.h) (o:=[]) (s:=[(lo (rg q.h r1.toNat+lo im),((gG op:Nat):Int))]) ?_ ((ok.mem _).stored _ _ _ _) ov hh rfl rfl st (by simp[Rn.stored]) rfl rfl (by simp[Rn.stored,hm]),fun h=>?_⟩
  ·rw[uf (Y:=q.h) (res:=none) (m:=il q.m op (lo (rg q.h r1.toNat+lo im)) (rg q.h r2.toNat)) (o:=[]) (s:=[(lo (rg q.h r1.toNat+lo im),((gG op:Nat):Int))]) (by rw[hE];unfold aH;rw[at7 hk]) st (by omega)];rfl
  ·have:q.over=true:=h;rw[ov]at this;cases this
 ·rw[at6 hk];have t:=jg (bf:=bf) (bt:=bt) (rd:=rd) (c:=4) ok hh (r1:=r1) (r2:=r2) (im:=im) (op:=op) (by rw[hE];unfold aH;rw[at6 hk];rfl);exact⟨t.1,fun _=>.inr t.2⟩
theorem Dj (ho:op=57):iy bf bt steps a op rd r1 r2 im []:=fun q ov ok st z hh hl=>by
 have hE:fT (q.h.go a) q.m op (rg q.h r1.toNat) (rg q.h r2.toNat) (lo im)=⟨q.h.go a,q.m,[],[],none⟩:=by
  unfold fT;rw[ak,ak,ak,ak,ak,ak,ak,ak,ak,ak]
 refine⟨qK (X:=q.h) (o:=[]) (s:=[]) ?_ ok ov hh rfl rfl st (by simp[bB]) (by simp[bB]) rfl (by simp[bB]),fun h=>?_⟩
 ·rw[uf (Y:=q.h) (res:=none) hE st (by omega)];rfl
 ·have:q.over=true:=h;rw[ov]at this;cases this
theorem Dk (ho:op=59):iy bf bt steps a op rd r1 r2 im [⟨6,0,0,0,0⟩]:=fun q ov ok st z hh hl=>by
 rw[fF ov];have e:ja bf bt steps q ⟨6,0,0,0,0⟩=q.trap 6:=by unfold ja;rw[at6 (by simp),at6 (by simp),at6 (by simp),at6 (by simp),at6 (by simp),at7 rfl]
 rw[e];have t:=jg (bf:=bf) (bt:=bt) (rd:=rd) (c:=6) ok hh (r1:=r1) (r2:=r2) (im:=im) (op:=op) (by unfold fT;rw[ak,ak,ak,ak,ak,ak,ak,ak,ak,at7 ho];rfl);exact⟨t.1,fun _=>.inr t.2⟩
theorem IC (ho:op=58):iy bf bt steps a op rd r1 r2 im [⟨5,0,0,0,0⟩]:=fun q ov ok st z hh hl=>by
 rw[fF ov];have e:ja bf bt steps q ⟨5,0,0,0,0⟩=tX q:=by unfold ja;rw[at6 (by simp),at6 (by simp),at6 (by simp),at6 (by simp),at7 rfl]
 rw[e];have hE:fT (q.h.go a) q.m op (rg q.h r1.toNat) (rg q.h r2.toNat) (lo im)=bA (q.h.go a) q.m:=by
  unfold fT;rw[ak,ak,ak,ak,ak,ak,ak,ak,at7 ho]
 unfold tX;unfold bA at hE;have hrg:∀k,rg (q.h.go a) k=rg q.h k:=fun _=>rfl
 rw[hrg,hrg]at hE;by_cases h0:rg q.h 17=0
 ·rw[at7 h0]at hE ⊢;have e2:=AB (rd:=rd) (Y:=q.h.halt) hE (by simp[Hv.halt]);refine⟨sI (o:=[]) (s:=[]) ?_ ⟨ok.h.halt.go ok.h0 ok.h1,ok.tl,ok.tb,ok.h0,ok.h1⟩ rfl (by simp) (by simp) rfl (by simp),fun _=>.inr ?_⟩
  ·rw[e2];show _=(⟨q.h.halt.go q.here,q.m,[],[]⟩:Sv)
   rw[hh]
  ·rw[e2];simp[Hv.halt,Hv.go]
 rw[at6 h0]at hE ⊢;by_cases h1:rg q.h 17=1
 ·rw[at7 h1]at hE ⊢;refine⟨qK (X:=q.h) (o:=[rg q.h 10]) (s:=[]) ?_ ⟨ok.h,ok.tl,ok.tb,ok.h0,ok.h1⟩ ov hh rfl rfl st rfl (by simp) rfl (by simp),fun h=>?_⟩
  ·rw[uf (Y:=q.h) (res:=none) hE st (by omega)];rfl
  ·have:q.over=true:=h;rw[ov]at this;cases this
 ·rw[at6 h1]at hE ⊢;have t:=jg (bf:=bf) (bt:=bt) (rd:=rd) (c:=5) ok hh (r1:=r1) (r2:=r2) (im:=im) (op:=op) hE;exact⟨t.1,fun _=>.inr t.2⟩
end
end Ts
namespace Ts
open Mm Wd Mi Bk
open Hh hiding Rn

section
variable {bf bt steps a op rd r1 r2 im :Int}
theorem Sn (h1:r1<32)(h2:r2<32)(ho:5<=op/\op<=10):iy bf bt steps a op rd r1 r2 im [⟨100+op,0,r1,r2,lo (a+lo im)⟩]:=fun q ov ok st z hh hl=>by
 rw[fF ov,gM (c:=100) (k:=op) (by omega) (by omega) rfl (by omega)];unfold vH;rw[at7 rfl];simp only[fV q h1,fV q h2];have hE:fT (q.h.go a) q.m op (rg q.h r1.toNat) (rg q.h r2.toNat) (lo im)=⟨q.h.go a,q.m,[],[],none⟩:=by
  unfold fT;rw[ak,ak,ak,ak,ak,ak,ak,ak,ak,ak]
 have e:ins (q.h.go a) q.m op rd r1 r2 im=done (fT (q.h.go a) q.m op (rg q.h r1.toNat) (rg q.h r2.toNat) (lo im)) rd.toNat (qD (q.h.go a) op (rg q.h r1.toNat) (rg q.h r2.toNat) (lo im)):=rfl;rw[e,hE];have ed:∀x,done ⟨q.h.go a,q.m,[],[],none⟩ rd.toNat x=⟨q.h.go x,q.m,[],[]⟩:=fun x=>by
  unfold done Hv.put Hv.on;simp only;rw[at7 (by show q.h.state=0;exact st),Au]
 rw[ed];have hlast:eB op=true:=by unfold eB;exact auq (by omega)
 by_cases hk:holds op (rg q.h r1.toNat) (rg q.h r2.toNat)=true
 ·rw[at7 hk];have en:qD (q.h.go a) op (rg q.h r1.toNat) (rg q.h r2.toNat) (lo im)=lo (a+lo im):=by
   unfold qD;rw[ak,at7 (.inr hk)];rfl
  rw[en];exact⟨sI (o:=[]) (s:=[]) rfl (ok.stop (W.lo _)) rfl (by simp[Rn.stop]) (by simp[Rn.stop]) rfl (by simp[Rn.stop]),fun _=>.inl hlast⟩
 ·rw[at6 hk];have en:qD (q.h.go a) op (rg q.h r1.toNat) (rg q.h r2.toNat) (lo im)=lo (a+4):=by
   unfold qD;rw[ak,at6 (by simp[hk];omega)];rfl
  rw[en];exact⟨qK (X:=q.h) (o:=[]) (s:=[]) rfl ok ov hh rfl rfl st (by simp) (by simp) rfl (by simp),fun _=>.inl hlast⟩
theorem AL {q q':Mi.Rn}{x pc:Int}(ok:q'.Ok)(st:q.h.state=0)(ov:q'.over=true)(hE:fT (q.h.go a) q.m op (rg q.h r1.toNat) (rg q.h r2.toNat) (lo im)=⟨q.h.go a,q.m,[],[],some x⟩)(hN:qD (q.h.go a) op (rg q.h r1.toNat) (rg q.h r2.toNat) (lo im)=pc)(hh:q'.h=(q.h.set rd.toNat x).go pc)(hm:q'.m=q.m)(ho:q'.out=q.out)(hs:q'.av=q.av)(hn:q'.n=q.n)(hw:q'.own=q.own):Fit bf bt a q (ins (q.h.go a) q.m op rd r1 r2 im) q':=by have e:ins (q.h.go a) q.m op rd r1 r2 im=done (fT (q.h.go a) q.m op (rg q.h r1.toNat) (rg q.h r2.toNat) (lo im)) rd.toNat (qD (q.h.go a) op (rg q.h r1.toNat) (rg q.h r2.toNat) (lo im)):=rfl;refine sI (o:=[]) (s:=[]) ?_ ok ov (by simp[ho]) (by simp[hs]) hn (by simp[hw]);rw[e,hE,hN];unfold done;simp only;rw[Md];unfold Hv.on;rw[at7 (by show(q.h.put rd.toNat (some x)).state=0;rw[(qL _ _ _).1];exact st),Au,hh,hm];rfl
theorem Mj {q:Mi.Rn}(ho:q.over=false)(i:Mv)(is:List Mv):bB bf bt steps q (i::is)=bB bf bt steps (ja bf bt steps q i) is:=by rw[bB,at6 (by simp[ho])]
theorem lK (q:Mi.Rn)(k x:Int):(q.put k x).over=q.over:=by unfold Rn.put;split<;>rfl
theorem FP {q:Mi.Rn}(d x:Int):ja bf bt steps q ⟨2,d,0,0,x⟩=q.put d x:=by unfold ja;rw[at6 (by simp),at7 rfl]
theorem YE {q:Mi.Rn}(x:Int):ja bf bt steps q ⟨3,0,0,0,x⟩=q.stop x:=by unfold ja;rw[at6 (by simp),at6 (by simp),at7 rfl]
theorem Su {q:Mi.Rn}(r x:Int):ja bf bt steps q ⟨4,0,r,0,x⟩=q.stop (lo (q.get r+x)-lo (q.get r+x)%2):=by unfold ja;rw[at6 (by simp),at6 (by simp),at6 (by simp),at7 rfl]
theorem Sw {q:Mi.Rn}(d r x:Int):ja bf bt steps q ⟨528,d,r,0,x⟩=q.put d (eT 28 (q.get r) x):=by rw[gM (c:=500) (k:=28) (by omega) (by omega) rfl (by omega)];unfold vH;rw[ak,ak,ak,ak,at7 rfl]
theorem FQ (x y:Int):eT 28 x y=lo (x+y):=by unfold eT;rw[at7 rfl]
theorem WR {x:Int}(h:W x):lo x=x:=aqr h.1 h.2
theorem Mk (hr:rd<32)(ho:op=3):iy bf bt steps a op rd r1 r2 im [⟨2,rd,0,0,lo (a+4)⟩,⟨3,0,0,0,lo (a+lo im)⟩]:=fun q ov ok st z hh hl=>by
 subst ho;rw[Mj ov,FP,fF (by rw[lK];exact ov),YE];refine⟨?_,fun _=>.inl rfl⟩;have WQ:=ok.put rd (W.lo (a+4));rw[kN q hr]at WQ ⊢;refine AL (x:=lo (a+4)) (pc:=lo (a+lo im)) (WQ.stop (W.lo _)) st rfl ?_ ?_ rfl rfl rfl rfl rfl rfl
 ·unfold fT;rw[ak,ak,dU];rfl
 ·unfold qD;rw[ak,at7 (.inl rfl)];rfl
theorem Ml (h:Hv)(l:List UInt8)(A B n:Int):fT (h.go a) l 4 A B n=⟨h.go a,l,[],[],some (lo (a+4))⟩:=by unfold fT;rw[ak,ak,dU];rfl
theorem Ms (h:Hv)(A B n:Int):qD (h.go a) 4 A B n=lo (A+n)-lo (A+n)%2:=by unfold qD;rw[at7 rfl]
theorem acO (x:Int):W (lo x-lo x%2):=by have:=W.lo x;unfold W at *;omega
theorem Mt (q:Mi.Rn){k:Int}(h:32<=k)(x:Int):q.put k x={ q with tm:=q.tm.set (k-32).toNat x }:=by unfold Rn.put;rw[at7 h]
theorem YF {q:Mi.Rn}(ok:q.Ok){t:Int}(h0:32<=t)(h1:t<36)(x:Int):(q.put t x).get t=x:=by
 rw[Mt q h0];unfold Rn.get;rw[ak];show(q.tm.set (t-32).toNat x).getD (t-32).toNat 0=x
 rw[LP,at7 ⟨rfl,by rw[ok.tl];omega⟩]
theorem Dl (q:Mi.Rn){t:Int}(h0:32<=t){k:Int}(hk:k<32)(x y:Int):(q.put k x).get t=q.get t:=by rw[kN q hk];unfold Rn.get;rw[ak,ak]
theorem Dn (t:Int)(h0:32<=t)(h1:t<36)(hr:rd<32)(hr1:r1<32)(ho:op=4):iy bf bt steps a op rd r1 r2 im [⟨528,t,r1,0,lo im⟩,⟨2,rd,0,0,lo (a+4)⟩,⟨4,0,t,0,0⟩]:=fun q ov ok st z hh hl=>by
 subst ho;have eA:eT 28 (q.get r1) (lo im)=lo (rg q.h r1.toNat+lo im):=by rw[FQ,fV q hr1]
 rw[Mj ov,Sw,eA];have ok1:=ok.put t (W.lo (rg q.h r1.toNat+lo im));rw[Mj (by rw[lK];exact ov),FP,fF (by rw[lK,lK];exact ov),Su];rw[Dl _ h0 hr _ 0,YF ok h0 h1,Int.add_zero,WR (W.lo _)];refine⟨?_,fun _=>.inl rfl⟩;have ok2:=(ok1.put rd (W.lo (a+4))).stop (acO (rg q.h r1.toNat+lo im));rw[kN _ hr,Mt q h0]at ok2 ⊢;exact AL (x:=lo (a+4)) (pc:=lo (rg q.h r1.toNat+lo im)-lo (rg q.h r1.toNat+lo im)%2) ok2 st rfl (Ml _ _ _ _ _) (Ms _ _ _ _) rfl rfl rfl rfl rfl rfl
theorem pG {q q2:Mi.Rn}{s:List (Int×Int)}{x:Int}(hE:fT (q.h.go a) q.m op (rg q.h r1.toNat) (rg q.h r2.toNat) (lo im)=⟨q2.h.go a,q2.m,[],s,some x⟩)(ok:q2.Ok)(ov:q2.over=false)(st:q2.h.state=0)(hpc:q2.h.pc=q.h.pc)(hh:q2.here=a)(ho:q2.out=q.out)(hs:q2.av=q.av++s)(hn:q2.n=q.n)(hw:q2.own=(q.own ||s.any (meet bf bt)))(hr:rd<32)(wx:W x)(hx:¬op=3/\¬op=4/\(op<5\/10<op)):Fit bf bt a q (ins (q.h.go a) q.m op rd r1 r2 im) (q2.put rd x):=by
 have WQ:=ok.put rd wx;rw[kN q2 hr]at WQ ⊢;refine qK (X:=q2.h.set rd.toNat x) (o:=[]) (s:=s) (uf (res:=some x) hE st hx) WQ ov hh rfl ?_ ?_ (by simp[ho]) hs hn hw
 ·exact(qL q2.h rd.toNat (some x)).2.trans hpc
 ·exact(qL q2.h rd.toNat (some x)).1.trans st
theorem IE (hr:rd<32)(h1:r1<32)(h2:r2<32)(ho:46<=op/\op<=56):iy bf bt steps a op rd r1 r2 im [⟨600+op,rd,r1,r2,0⟩]:=fun q ov ok st z hh hl=>by
 rw[fF ov,gM (c:=600) (k:=op) (by omega) (by omega) rfl (by omega)];unfold vH;rw[ak,ak,ak,ak,ak,at7 rfl];simp only[fV q h1,fV q h2];have wA:=ok.h.reg r1.toNat;have wB:=ok.h.reg r2.toNat;have hE:fT (q.h.go a) q.m op (rg q.h r1.toNat) (rg q.h r2.toNat) (lo im)=aK (q.h.go a) q.m op (rg q.h r1.toNat) (rg q.h r2.toNat):=by
  unfold fT;rw[ak,ak,ak,ak,ak,ak,ak,at7 ho]
 have hx:¬op=3/\¬op=4/\(op<5\/10<op):=by omega
 have no:∀{q2:Mi.Rn} {x:Int} {P:Prop},q2.over=false->(q2.put rd x).over=true->P:=fun e h=>by rw[lK,e]at h;cases h
 unfold Ag;unfold aK at hE;by_cases q6:op=46
 ·rw[at7 q6]at hE ⊢;unfold mLr;unfold gB at hE;by_cases hk:bM q.m 13 (rg q.h r1.toNat)=true
  ·rw[at7 hk]at hE ⊢;exact⟨pG (q:=q) (bf:=bf) (bt:=bt) (q2:={ q with h:=q.h.hold true (rg q.h r1.toNat) }) (s:=[]) hE (ok.hart (ok.h.hold true wA.1 wA.2)) ov st rfl hh rfl (by simp) rfl (by simp) hr (W.aN _ _ _) hx,no (q2:={ q with h:=q.h.hold true (rg q.h r1.toNat) }) ov⟩
  ·rw[at6 hk]at hE ⊢;have t:=jg (bf:=bf) (bt:=bt) (rd:=rd) (c:=3) ok hh hE;exact⟨t.1,fun _=>.inr t.2⟩
 rw[at6 q6]at hE ⊢;by_cases q7:op=47
 ·rw[at7 q7]at hE ⊢;unfold mSc;unfold eU at hE;by_cases hk:bM q.m 13 (rg q.h r1.toNat)=true
  ·rw[at7 hk]at hE ⊢;have hm:=yt (op:=18) (bf:=bf) (bt:=bt) hl wA.1 (bG hk);have okH:=ok.hart (ok.h.hold false (x:=0) (by omega) (by omega));by_cases hd:q.h.held=true/\q.h.aP=rg q.h r1.toNat
   ·rw[at7 hd];have hd2:(q.h.go a).held=true/\(q.h.go a).aP=rg q.h r1.toNat:=hd;rw[at7 hd2]at hE;exact⟨pG (q:=q) (bf:=bf) (bt:=bt) (q2:={ q with h:=q.h.hold false 0,m:=il q.m 18 (rg q.h r1.toNat) (rg q.h r2.toNat) }.stored bf bt (rg q.h r1.toNat) 4) (s:=[(rg q.h r1.toNat,4)]) hE ((okH.mem _).stored _ _ _ _) ov st rfl hh rfl rfl rfl (by show(q.own ||hits bf bt _ 4)=_;rw[show hits bf bt (rg q.h r1.toNat) 4=meet bf bt (rg q.h r1.toNat,4)from hm];simp) hr .zero hx,no (q2:={ q with h:=q.h.hold false 0,m:=il q.m 18 (rg q.h r1.toNat) (rg q.h r2.toNat) }.stored bf bt (rg q.h r1.toNat) 4) ov⟩
   ·rw[at6 hd];have hd2:¬((q.h.go a).held=true/\(q.h.go a).aP=rg q.h r1.toNat):=hd;rw[at6 hd2]at hE;exact⟨pG (q:=q) (bf:=bf) (bt:=bt) (q2:={ q with h:=q.h.hold false 0 }) (s:=[]) hE okH ov st rfl hh rfl (by simp) rfl (by simp) hr .one hx,no (q2:={ q with h:=q.h.hold false 0 }) ov⟩
  ·rw[at6 hk]at hE ⊢;have t:=jg (bf:=bf) (bt:=bt) (rd:=rd) (c:=4) ok hh hE;exact⟨t.1,fun _=>.inr t.2⟩
 rw[at6 q7]at hE ⊢;unfold LM;unfold iN at hE;by_cases hk:bM q.m 13 (rg q.h r1.toNat)=true
 ·rw[at7 hk]at hE ⊢;have hm:=yt (op:=18) (bf:=bf) (bt:=bt) hl wA.1 (bG hk);exact⟨pG (q:=q) (bf:=bf) (bt:=bt) (q2:={ q with m:=il q.m 18 (rg q.h r1.toNat) (mO op (aN q.m 13 (rg q.h r1.toNat)) (rg q.h r2.toNat)) }.stored bf bt (rg q.h r1.toNat) 4) (s:=[(rg q.h r1.toNat,4)]) hE ((ok.mem _).stored _ _ _ _) ov st rfl hh rfl rfl rfl (by show(q.own ||hits bf bt _ 4)=_;rw[show hits bf bt (rg q.h r1.toNat) 4=meet bf bt (rg q.h r1.toNat,4)from hm];simp) hr (W.aN _ _ _) hx,no (q2:={ q with m:=il q.m 18 (rg q.h r1.toNat) (mO op (aN q.m 13 (rg q.h r1.toNat)) (rg q.h r2.toNat)) }.stored bf bt (rg q.h r1.toNat) 4) ov⟩
 ·rw[at6 hk]at hE ⊢;have t:=jg (bf:=bf) (bt:=bt) (rd:=rd) (c:=4) ok hh hE;exact⟨t.1,fun _=>.inr t.2⟩
end
end Ts
namespace Ts
open Mm Wd Mi Bk
open Hh hiding Rn

variable {l :List UInt8} {pc :Int}
theorem fM (l:List UInt8)(pc:Int):∀n k,(blk l pc n k).length≤n∧∀j,j<(blk l pc n k).length→jR l (at4 pc (k+j))=0∧(blk l pc n k)[j]?=some (aN l 13 (at4 pc (k+j)))∧(eB (Dc.aO (aN l 13 (at4 pc (k+j))))=true→j+1=(blk l pc n k).length)
 |0,k=>⟨apn _,fun j hj=>absurd hj (by simp[blk])⟩
 |n+1,k=>by
  by_cases h:jR l (at4 pc k)=0
  ·cases hl:eB (Dc.aO (aN l 13 (at4 pc k)))with
   |true=>
    rw[pq h hl];refine⟨by simp,fun j hj=>?_⟩;have hj0:j=0:=by simp at hj;omega
    subst hj0;exact⟨h,rfl,fun _=>rfl⟩
   |false=>
    rw[yo h hl];obtain⟨ih1,ih2⟩:=fM l pc n (k+1);refine⟨by simp;omega,fun j hj=>?_⟩
    match j,hj with
    |0,_=>exact⟨h,rfl,fun q=>by rw[aqt]at q;rw[hl]at q;cases q⟩
    |j+1,hj=>
     obtain⟨a,b,c⟩:=ih2 j (by simp at hj;omega);rw[show k+1+j=k+(j+1)by omega]at a b c;exact⟨a,by simpa using b,fun q=>by have:=c q;simp;omega⟩
  ·rw[pg h];exact⟨by simp,fun j hj=>absurd hj (by simp)⟩
theorem mV (h:jR l pc=0):bM l 13 pc=true/\¬Dc.aO (aN l 13 pc)=0:=by
 unfold jR at h;split at h
 ·rename_i q;split at h
  ·cases h
  ·rename_i q2;exact⟨q,q2⟩
 ·cases h
theorem acP {a:Int}(h:bM l 13 a=true):a+4<=l.length:=by unfold bM qy at h;simp only[auk]at h;exact h.2.2
theorem Sy (hl :l.length <= 4096) (h0 :0 <= pc) (h1 :pc < 4294967296) (hp :0 < (blk l pc 16 0).length) :Sj l pc (pc + 4 * ((blk l pc 16 0).length :Int)) (blk l pc 16 0).length (fun j => aN l 13 (at4 pc j)) :=by
  obtain⟨_, f⟩ :=fM l pc 16 0;have f : ∀ j, j < (blk l pc 16 0).length -> jR l (at4 pc j) =0 /\ (blk l pc 16 0)[j]? =some (aN l 13 (at4 pc j)) /\ (eB (Dc.aO (aN l 13 (at4 pc j))) =true -> j + 1 =(blk l pc 16 0).length) :=fun j hj => by
    have :=f j hj;rwa[apu]at this
  have at_ : ∀ j, j <= (blk l pc 16 0).length -> at4 pc j =pc + 4 * j :=by
    intro j;induction j with
    | zero => intro _; unfold at4; have : lo (pc + 4 * ((0 : Nat) : Int)) = pc := by rw [show pc + 4 * ((0 : Nat) : Int) = pc by omega]; exact aqr h0 h1
              rw[this]; omega
    |succ j ih =>
      intro hj;have e :=ih (by omega);have :=acP (mV (f j (by omega)).1).1;unfold at4 at e ⊢;rw[show lo (pc + 4 * ((j + 1 :Nat) :Int)) =pc + 4 * ((j + 1 :Nat) :Int)from aqr (by omega) (by unfold at4 at this; omega)]
  have hlast :=acP (mV (f ((blk l pc 16 0).length - 1) (by omega)).1).1;rw[at_ _ (by omega)]at hlast;exact⟨hp, h0, rfl, hl, by omega, at_, fun j hj => (mV (f j hj).1).1, fun j hj => (mV (f j hj).1).2, fun j hj q => (f j hj).2.2 q⟩
theorem wO (f x:Int):0<=Dc.iF f x/\Dc.iF f x<32:=by unfold Dc.iF;split<;>omega
theorem MC (f x:Int):0<=Dc.bZ f x/\Dc.bZ f x<32:=by unfold Dc.bZ;split<;>omega
theorem ME (f x:Int):0<=Dc.bV f x/\Dc.bV f x<32:=by unfold Dc.bV;split<;>omega
end Ts
namespace Re
open Go.ChangeShapes Go.WideShapes Go.ChangeAt Go.RowKit Dw

end Re
end Go.Proofs.YtiadhbmnfjfioaaGreatDoor
