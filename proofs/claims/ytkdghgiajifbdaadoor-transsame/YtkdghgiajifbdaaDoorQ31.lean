/-
  Tm, Tb: texts of ours that lie in one file.
-/
import Derived.Test.YtkdghgiajifbdaaDoorQ30
set_option linter.unusedVariables false
set_option linter.unusedSimpArgs false
set_option maxHeartbeats 8000000
set_option maxRecDepth 100000
namespace Go.Proofs.YtkdghgiajifbdaaDoor.Ts
open Mm Wd Mi Bk
open Hh hiding Rn

section
variable {bf bt steps a op rd r1 r2 im : Int}
theorem body_if (h1:r1<32)(h2:r2<32)(ho:5≤op∧op≤10):BodyI bf bt steps a op rd r1 r2 im [⟨100+op,0,r1,r2,lo (a+lo im)⟩]:=fun q ov ok st z hh hl=>by
 rw [one_run ov,mic_op (c:=100) (k:=op) (by omega) (by omega) rfl (by omega)]
 unfold mOp
 rw [if_pos rfl]
 simp only [get_low q h1,get_low q h2]
 have hE:eff (q.h.go a) q.m op (rg q.h r1.toNat) (rg q.h r2.toNat) (lo im)=⟨q.h.go a,q.m,[],[],none⟩:=by
  unfold eff
  rw [if_neg (by omega),if_neg (by omega),if_neg (by omega),if_neg (by omega),if_neg (by omega),if_neg (by omega),if_neg (by omega),if_neg (by omega),if_neg (by omega),if_neg (by omega)]
 have e:ins (q.h.go a) q.m op rd r1 r2 im=done (eff (q.h.go a) q.m op (rg q.h r1.toNat) (rg q.h r2.toNat) (lo im)) rd.toNat (nxt (q.h.go a) op (rg q.h r1.toNat) (rg q.h r2.toNat) (lo im)):=rfl
 rw [e,hE]
 have ed:∀x,done ⟨q.h.go a,q.m,[],[],none⟩ rd.toNat x=⟨q.h.go x,q.m,[],[]⟩:=fun x=>by
  unfold done Hv.put Hv.on
  simp only
  rw [if_pos (by show q.h.state=0;exact st),go_go]
 rw [ed]
 have hlast:lastOp op=true:=by unfold lastOp;exact decide_eq_true (by omega)
 by_cases hk:holds op (rg q.h r1.toNat) (rg q.h r2.toNat)=true
 ·rw [if_pos hk]
  have en:nxt (q.h.go a) op (rg q.h r1.toNat) (rg q.h r2.toNat) (lo im)=lo (a+lo im):=by
   unfold nxt
   rw [if_neg (by omega),if_pos (.inr hk)]
   rfl
  rw [en]
  exact ⟨fit_end (o:=[]) (s:=[]) rfl (ok.stop (W.lo _)) rfl (by simp [Rn.stop]) (by simp [Rn.stop]) rfl (by simp [Rn.stop]),fun _=>.inl hlast⟩
 ·rw [if_neg hk]
  have en:nxt (q.h.go a) op (rg q.h r1.toNat) (rg q.h r2.toNat) (lo im)=lo (a+4):=by
   unfold nxt
   rw [if_neg (by omega),if_neg (by simp [hk];omega)]
   rfl
  rw [en]
  exact ⟨fit_on (X:=q.h) (o:=[]) (s:=[]) rfl ok ov hh rfl rfl st (by simp) (by simp) rfl (by simp),fun _=>.inl hlast⟩
theorem fit_jump {q q':Mi.Rn}{x pc:Int}(ok:q'.Ok)(st:q.h.state=0)(ov:q'.over=true)(hE:eff (q.h.go a) q.m op (rg q.h r1.toNat) (rg q.h r2.toNat) (lo im)=⟨q.h.go a,q.m,[],[],some x⟩)(hN:nxt (q.h.go a) op (rg q.h r1.toNat) (rg q.h r2.toNat) (lo im)=pc)(hh:q'.h=(q.h.set rd.toNat x).go pc)(hm:q'.m=q.m)(ho:q'.out=q.out)(hs:q'.sto=q.sto)(hn:q'.n=q.n)(hw:q'.own=q.own):Fit bf bt a q (ins (q.h.go a) q.m op rd r1 r2 im) q':=by
 have e:ins (q.h.go a) q.m op rd r1 r2 im=done (eff (q.h.go a) q.m op (rg q.h r1.toNat) (rg q.h r2.toNat) (lo im)) rd.toNat (nxt (q.h.go a) op (rg q.h r1.toNat) (rg q.h r2.toNat) (lo im)):=rfl
 refine fit_end (o:=[]) (s:=[]) ?_ ok ov (by simp [ho]) (by simp [hs]) hn (by simp [hw])
 rw [e,hE,hN]
 unfold done
 simp only
 rw [put_go]
 unfold Hv.on
 rw [if_pos (by show (q.h.put rd.toNat (some x)).state=0;rw [(put_st _ _ _).1];exact st),go_go,hh,hm]
 rfl
theorem mrun2 {q:Mi.Rn}(ho:q.over=false)(i:Mv)(is:List Mv):mrun bf bt steps q (i::is)=mrun bf bt steps (mic bf bt steps q i) is:=by rw [mrun,if_neg (by simp [ho])]
theorem put_over (q:Mi.Rn)(k x:Int):(q.put k x).over=q.over:=by unfold Rn.put;split<;>rfl
theorem mic_set {q:Mi.Rn}(d x:Int):mic bf bt steps q ⟨2,d,0,0,x⟩=q.put d x:=by unfold mic;rw [if_neg (by simp),if_pos rfl]
theorem mic_go {q:Mi.Rn}(x:Int):mic bf bt steps q ⟨3,0,0,0,x⟩=q.stop x:=by unfold mic;rw [if_neg (by simp),if_neg (by simp),if_pos rfl]
theorem mic_reg {q:Mi.Rn}(r x:Int):mic bf bt steps q ⟨4,0,r,0,x⟩=q.stop (lo (q.get r+x)-lo (q.get r+x)%2):=by unfold mic;rw [if_neg (by simp),if_neg (by simp),if_neg (by simp),if_pos rfl]
theorem mic_add {q:Mi.Rn}(d r x:Int):mic bf bt steps q ⟨528,d,r,0,x⟩=q.put d (alu 28 (q.get r) x):=by
 rw [mic_op (c:=500) (k:=28) (by omega) (by omega) rfl (by omega)]
 unfold mOp
 rw [if_neg (by omega),if_neg (by omega),if_neg (by omega),if_neg (by omega),if_pos rfl]
theorem alu_add (x y:Int):alu 28 x y=lo (x+y):=by unfold alu;rw [if_pos rfl]
theorem lo_id {x:Int}(h:W x):lo x=x:=Int.emod_eq_of_lt h.1 h.2
theorem body_jal (hr:rd<32)(ho:op=3):BodyI bf bt steps a op rd r1 r2 im [⟨2,rd,0,0,lo (a+4)⟩,⟨3,0,0,0,lo (a+lo im)⟩]:=fun q ov ok st z hh hl=>by
 subst ho
 rw [mrun2 ov,mic_set,one_run (by rw [put_over];exact ov),mic_go]
 refine ⟨?_,fun _=>.inl rfl⟩
 have okp:=ok.put rd (W.lo (a+4))
 rw [put_low q hr] at okp ⊢
 refine fit_jump (x:=lo (a+4)) (pc:=lo (a+lo im)) (okp.stop (W.lo _)) st rfl ?_ ?_ rfl rfl rfl rfl rfl rfl
 ·unfold eff
  rw [if_neg (by omega),if_neg (by omega),if_pos (by omega)]
  rfl
 ·unfold nxt
  rw [if_neg (by omega),if_pos (.inl rfl)]
  rfl
theorem eff_jalr (h:Hv)(l:List UInt8)(A B n:Int):eff (h.go a) l 4 A B n=⟨h.go a,l,[],[],some (lo (a+4))⟩:=by
 unfold eff
 rw [if_neg (by omega),if_neg (by omega),if_pos (by omega)]
 rfl
theorem nxt_jalr (h:Hv)(A B n:Int):nxt (h.go a) 4 A B n=lo (A+n)-lo (A+n)%2:=by unfold nxt;rw [if_pos rfl]
theorem go2_w (x:Int):W (lo x-lo x%2):=by have:=W.lo x;unfold W at *;omega
theorem put_hi (q:Mi.Rn){k:Int}(h:32≤k)(x:Int):q.put k x={ q with tm:=q.tm.set (k-32).toNat x }:=by unfold Rn.put;rw [if_pos h]
theorem get_hi {q:Mi.Rn}(ok:q.Ok){t:Int}(h0:32≤t)(h1:t<36)(x:Int):(q.put t x).get t=x:=by
 rw [put_hi q h0]
 unfold Rn.get
 rw [if_neg (by omega)]
 show (q.tm.set (t-32).toNat x).getD (t-32).toNat 0=x
 rw [tm_set,if_pos ⟨rfl,by rw [ok.tl];omega⟩]
theorem get_hi_low (q:Mi.Rn){t:Int}(h0:32≤t){k:Int}(hk:k<32)(x y:Int):(q.put k x).get t=q.get t:=by
 rw [put_low q hk]
 unfold Rn.get
 rw [if_neg (by omega),if_neg (by omega)]
theorem body_jalr2 (t:Int)(h0:32≤t)(h1:t<36)(hr:rd<32)(hr1:r1<32)(ho:op=4):BodyI bf bt steps a op rd r1 r2 im [⟨528,t,r1,0,lo im⟩,⟨2,rd,0,0,lo (a+4)⟩,⟨4,0,t,0,0⟩]:=fun q ov ok st z hh hl=>by
 subst ho
 have eA:alu 28 (q.get r1) (lo im)=lo (rg q.h r1.toNat+lo im):=by rw [alu_add,get_low q hr1]
 rw [mrun2 ov,mic_add,eA]
 have ok1:=ok.put t (W.lo (rg q.h r1.toNat+lo im))
 rw [mrun2 (by rw [put_over];exact ov),mic_set,one_run (by rw [put_over,put_over];exact ov),mic_reg]
 rw [get_hi_low _ h0 hr _ 0,get_hi ok h0 h1,Int.add_zero,lo_id (W.lo _)]
 refine ⟨?_,fun _=>.inl rfl⟩
 have ok2:=(ok1.put rd (W.lo (a+4))).stop (go2_w (rg q.h r1.toNat+lo im))
 rw [put_low _ hr,put_hi q h0] at ok2 ⊢
 exact fit_jump (x:=lo (a+4)) (pc:=lo (rg q.h r1.toNat+lo im)-lo (rg q.h r1.toNat+lo im)%2) ok2 st rfl (eff_jalr _ _ _ _ _) (nxt_jalr _ _ _ _) rfl rfl rfl rfl rfl rfl
theorem fit_put2 {q q2:Mi.Rn}{s:List (Int×Int)}{x:Int}(hE:eff (q.h.go a) q.m op (rg q.h r1.toNat) (rg q.h r2.toNat) (lo im)=⟨q2.h.go a,q2.m,[],s,some x⟩)(ok:q2.Ok)(ov:q2.over=false)(st:q2.h.state=0)(hpc:q2.h.pc=q.h.pc)(hh:q2.here=a)(ho:q2.out=q.out)(hs:q2.sto=q.sto++s)(hn:q2.n=q.n)(hw:q2.own=(q.own || s.any (meet bf bt)))(hr:rd<32)(wx:W x)(hx:¬op=3∧¬op=4∧(op<5∨10<op)):Fit bf bt a q (ins (q.h.go a) q.m op rd r1 r2 im) (q2.put rd x):=by
 have okp:=ok.put rd wx
 rw [put_low q2 hr] at okp ⊢
 refine fit_on (X:=q2.h.set rd.toNat x) (o:=[]) (s:=s) (ins_on (res:=some x) hE st hx) okp ov hh rfl ?_ ?_ (by simp [ho]) hs hn hw
 ·exact (put_st q2.h rd.toNat (some x)).2.trans hpc
 ·exact (put_st q2.h rd.toNat (some x)).1.trans st
theorem body_atom (hr:rd<32)(h1:r1<32)(h2:r2<32)(ho:46≤op∧op≤56):BodyI bf bt steps a op rd r1 r2 im [⟨600+op,rd,r1,r2,0⟩]:=fun q ov ok st z hh hl=>by
 rw [one_run ov,mic_op (c:=600) (k:=op) (by omega) (by omega) rfl (by omega)]
 unfold mOp
 rw [if_neg (by omega),if_neg (by omega),if_neg (by omega),if_neg (by omega),if_neg (by omega),if_pos rfl]
 simp only [get_low q h1,get_low q h2]
 have wA:=ok.h.reg r1.toNat
 have wB:=ok.h.reg r2.toNat
 have hE:eff (q.h.go a) q.m op (rg q.h r1.toNat) (rg q.h r2.toNat) (lo im)=efAtom (q.h.go a) q.m op (rg q.h r1.toNat) (rg q.h r2.toNat):=by
  unfold eff
  rw [if_neg (by omega),if_neg (by omega),if_neg (by omega),if_neg (by omega),if_neg (by omega),if_neg (by omega),if_neg (by omega),if_pos ho]
 have hx:¬op=3∧¬op=4∧(op<5∨10<op):=by omega
 have no:∀{q2:Mi.Rn} {x:Int} {P:Prop},q2.over=false→(q2.put rd x).over=true→P:=fun e h=>by rw [put_over,e] at h;cases h
 unfold mAtom
 unfold efAtom at hE
 by_cases q6:op=46
 ·rw [if_pos q6] at hE ⊢
  unfold mLr
  unfold efLr at hE
  by_cases hk:ldOk q.m 13 (rg q.h r1.toNat)=true
  ·rw [if_pos hk] at hE ⊢
   exact ⟨fit_put2 (q:=q) (bf:=bf) (bt:=bt) (q2:={ q with h:=q.h.hold true (rg q.h r1.toNat) }) (s:=[]) hE (ok.hart (ok.h.hold true wA.1 wA.2)) ov st rfl hh rfl (by simp) rfl (by simp) hr (W.ldV _ _ _) hx,no (q2:={ q with h:=q.h.hold true (rg q.h r1.toNat) }) ov⟩
  ·rw [if_neg hk] at hE ⊢
   have t:=fit_trap (bf:=bf) (bt:=bt) (rd:=rd) (c:=3) ok hh hE
   exact ⟨t.1,fun _=>.inr t.2⟩
 rw [if_neg q6] at hE ⊢
 by_cases q7:op=47
 ·rw [if_pos q7] at hE ⊢
  unfold mSc
  unfold efSc at hE
  by_cases hk:ldOk q.m 13 (rg q.h r1.toNat)=true
  ·rw [if_pos hk] at hE ⊢
   have hm:=hits_at (op:=18) (bf:=bf) (bt:=bt) hl wA.1 (st_of_ld hk)
   have okH:Mi.Rn.Ok { q with h:=q.h.hold false 0 }:=ok.hart (ok.h.hold false (x:=0) (by omega) (by omega))
   by_cases hd:q.h.held=true∧q.h.heldAt=rg q.h r1.toNat
   ·rw [if_pos hd]
    have hd2:(q.h.go a).held=true∧(q.h.go a).heldAt=rg q.h r1.toNat:=hd
    rw [if_pos hd2] at hE
    exact ⟨fit_put2 (q:=q) (bf:=bf) (bt:=bt) (q2:={ q with h:=q.h.hold false 0,m:=stL q.m 18 (rg q.h r1.toNat) (rg q.h r2.toNat) }.stored bf bt (rg q.h r1.toNat) 4) (s:=[(rg q.h r1.toNat,4)]) hE ((okH.mem _).stored _ _ _ _) ov st rfl hh rfl rfl rfl (by show (q.own || hits bf bt _ 4)=_;rw [show hits bf bt (rg q.h r1.toNat) 4=meet bf bt (rg q.h r1.toNat,4) from hm];simp) hr .zero hx,no (q2:={ q with h:=q.h.hold false 0,m:=stL q.m 18 (rg q.h r1.toNat) (rg q.h r2.toNat) }.stored bf bt (rg q.h r1.toNat) 4) ov⟩
   ·rw [if_neg hd]
    have hd2:¬((q.h.go a).held=true∧(q.h.go a).heldAt=rg q.h r1.toNat):=hd
    rw [if_neg hd2] at hE
    exact ⟨fit_put2 (q:=q) (bf:=bf) (bt:=bt) (q2:={ q with h:=q.h.hold false 0 }) (s:=[]) hE okH ov st rfl hh rfl (by simp) rfl (by simp) hr .one hx,no (q2:={ q with h:=q.h.hold false 0 }) ov⟩
  ·rw [if_neg hk] at hE ⊢
   have t:=fit_trap (bf:=bf) (bt:=bt) (rd:=rd) (c:=4) ok hh hE
   exact ⟨t.1,fun _=>.inr t.2⟩
 rw [if_neg q7] at hE ⊢
 unfold mAmo
 unfold efAmo at hE
 by_cases hk:ldOk q.m 13 (rg q.h r1.toNat)=true
 ·rw [if_pos hk] at hE ⊢
  have hm:=hits_at (op:=18) (bf:=bf) (bt:=bt) hl wA.1 (st_of_ld hk)
  exact ⟨fit_put2 (q:=q) (bf:=bf) (bt:=bt) (q2:={ q with m:=stL q.m 18 (rg q.h r1.toNat) (amo op (ldV q.m 13 (rg q.h r1.toNat)) (rg q.h r2.toNat)) }.stored bf bt (rg q.h r1.toNat) 4) (s:=[(rg q.h r1.toNat,4)]) hE ((ok.mem _).stored _ _ _ _) ov st rfl hh rfl rfl rfl (by show (q.own || hits bf bt _ 4)=_;rw [show hits bf bt (rg q.h r1.toNat) 4=meet bf bt (rg q.h r1.toNat,4) from hm];simp) hr (W.ldV _ _ _) hx,no (q2:={ q with m:=stL q.m 18 (rg q.h r1.toNat) (amo op (ldV q.m 13 (rg q.h r1.toNat)) (rg q.h r2.toNat)) }.stored bf bt (rg q.h r1.toNat) 4) ov⟩
 ·rw [if_neg hk] at hE ⊢
  have t:=fit_trap (bf:=bf) (bt:=bt) (rd:=rd) (c:=4) ok hh hE
  exact ⟨t.1,fun _=>.inr t.2⟩
end
end Go.Proofs.YtkdghgiajifbdaaDoor.Ts
namespace Go.Proofs.YtkdghgiajifbdaaDoor.Ts
open Mm Wd Mi Bk
open Hh hiding Rn

variable {l : List UInt8} {pc : Int}
theorem blk_facts (l:List UInt8)(pc:Int):∀n k,(blk l pc n k).length≤n∧∀j,j<(blk l pc n k).length→ftC l (at4 pc (k+j))=0∧(blk l pc n k)[j]?=some (ldV l 13 (at4 pc (k+j)))∧(lastOp (Dc.dop (ldV l 13 (at4 pc (k+j))))=true→j+1=(blk l pc n k).length)
 | 0,k=>⟨Nat.le_refl _,fun j hj=>absurd hj (by simp [blk])⟩
 | n+1,k=>by
  by_cases h:ftC l (at4 pc k)=0
  ·cases hl:lastOp (Dc.dop (ldV l 13 (at4 pc k))) with
   | true=>
    rw [blk_last h hl]
    refine ⟨by simp,fun j hj=>?_⟩
    have hj0:j=0:=by simp at hj;omega
    subst hj0
    exact ⟨h,rfl,fun _=>rfl⟩
   | false=>
    rw [blk_on h hl]
    obtain ⟨ih1,ih2⟩:=blk_facts l pc n (k+1)
    refine ⟨by simp;omega,fun j hj=>?_⟩
    match j,hj with
    | 0,_=>exact ⟨h,rfl,fun q=>by rw [Nat.add_zero] at q;rw [hl] at q;cases q⟩
    | j+1,hj=>
     obtain ⟨a,b,c⟩:=ih2 j (by simp at hj;omega)
     rw [show k+1+j=k+(j+1) by omega] at a b c
     exact ⟨a,by simpa using b,fun q=>by have:=c q;simp;omega⟩
  ·rw [blk_stop h]
   exact ⟨by simp,fun j hj=>absurd hj (by simp)⟩
theorem ft_zero (h:ftC l pc=0):ldOk l 13 pc=true∧¬Dc.dop (ldV l 13 pc)=0:=by
 unfold ftC at h
 split at h
 ·rename_i q
  split at h
  ·cases h
  ·rename_i q2
   exact ⟨q,q2⟩
 ·cases h
theorem ld13 {a:Int}(h:ldOk l 13 a=true):a+4≤l.length:=by
 unfold ldOk thr at h
 simp only [decide_eq_true_eq] at h
 exact h.2.2
theorem blkd_of (hl : l.length ≤ 4096) (h0 : 0 ≤ pc) (h1 : pc < 4294967296) (hp : 0 < (blk l pc 16 0).length) : Blkd l pc (pc + 4 * ((blk l pc 16 0).length : Int)) (blk l pc 16 0).length (fun j => ldV l 13 (at4 pc j)) := by
  obtain ⟨_, f⟩ := blk_facts l pc 16 0
  have f : ∀ j, j < (blk l pc 16 0).length → ftC l (at4 pc j) = 0 ∧ (blk l pc 16 0)[j]? = some (ldV l 13 (at4 pc j)) ∧ (lastOp (Dc.dop (ldV l 13 (at4 pc j))) = true → j + 1 = (blk l pc 16 0).length) := fun j hj => by
    have := f j hj
    rwa [Nat.zero_add] at this
  have at_ : ∀ j, j ≤ (blk l pc 16 0).length → at4 pc j = pc + 4 * j := by
    intro j
    induction j with
    | zero => intro _; unfold at4; have : lo (pc + 4 * ((0 : Nat) : Int)) = pc := by rw [show pc + 4 * ((0 : Nat) : Int) = pc by omega]; exact Int.emod_eq_of_lt h0 h1
              rw [this]; omega
    | succ j ih =>
      intro hj
      have e := ih (by omega)
      have := ld13 (ft_zero (f j (by omega)).1).1
      unfold at4 at e ⊢
      rw [show lo (pc + 4 * ((j + 1 : Nat) : Int)) = pc + 4 * ((j + 1 : Nat) : Int) from Int.emod_eq_of_lt (by omega) (by unfold at4 at this; omega)]
  have hlast := ld13 (ft_zero (f ((blk l pc 16 0).length - 1) (by omega)).1).1
  rw [at_ _ (by omega)] at hlast
  exact ⟨hp, h0, rfl, hl, by omega, at_, fun j hj => (ft_zero (f j hj).1).1, fun j hj => (ft_zero (f j hj).1).2, fun j hj q => (f j hj).2.2 q⟩
theorem rd_bd (f x:Int):0≤Dc.rdF f x∧Dc.rdF f x<32:=by unfold Dc.rdF;split<;>omega
theorem rs1_bd (f x:Int):0≤Dc.rs1F f x∧Dc.rs1F f x<32:=by unfold Dc.rs1F;split<;>omega
theorem rs2_bd (f x:Int):0≤Dc.rs2F f x∧Dc.rs2F f x<32:=by unfold Dc.rs2F;split<;>omega
end Go.Proofs.YtkdghgiajifbdaaDoor.Ts
