/-
  Td, Mp, Mq, Ep, Kk: texts of ours that lie in one file.
-/
import Derived.Test.YtchllaeembmioaaGreatDoorK06
import Derived.Test.YtchllaeembmioaaGreatDoorK01
import Derived.Test.YtchllaeembmioaaGreatDoorK10
import Derived.Test.YtchllaeembmioaaGreatDoorK05
import Derived.Test.YtchllaeembmioaaGreatDoorK03
set_option linter.unusedVariables false
set_option linter.unusedSimpArgs false
set_option maxHeartbeats 8000000
set_option maxRecDepth 100000
namespace Go.Proofs.YtchllaeembmioaaGreatDoor.Ts
open Mm Wd Mi Bk
open Hh hiding Rn

variable {bf bt steps a op rd : Int} {i : Iv}
def mdV (a:Int) (i:Iv):List Mv:=
 if i.op=1 then [⟨2,i.rd,0,0,lo i.im⟩] else if i.op=2 then [⟨2,i.rd,0,0,lo (a+lo i.im)⟩]
 else if i.op=3 then [⟨2,i.rd,0,0,lo (a+4)⟩,⟨3,0,0,0,lo (a+lo i.im)⟩]
 else if i.op=4 then [⟨528,32,i.r1,0,lo i.im⟩,⟨2,i.rd,0,0,lo (a+4)⟩,⟨4,0,32,0,0⟩]
 else if 5≤i.op∧i.op≤10 then [⟨100+i.op,0,i.r1,i.r2,lo (a+lo i.im)⟩]
 else if 11≤i.op∧i.op≤15 then [⟨200+i.op,i.rd,i.r1,0,lo i.im⟩]
 else if 16≤i.op∧i.op≤18 then [⟨300+i.op,0,i.r1,i.r2,lo i.im⟩]
 else if i.op=19∧(i.r1=0∨i.rd=0) then [⟨2,i.rd,0,0,lo i.im⟩]
 else if 19≤i.op∧i.op≤27 then [⟨500+opn i.op,i.rd,i.r1,0,lo i.im⟩]
 else if 28≤i.op∧i.op≤45 then [⟨400+i.op,i.rd,i.r1,i.r2,0⟩]
 else if 46≤i.op∧i.op≤56 then [⟨600+i.op,i.rd,i.r1,i.r2,0⟩]
 else if i.op=58 then [⟨5,0,0,0,0⟩] else if i.op=59 then [⟨6,0,0,0,0⟩] else []
structure Iv.In (i:Iv):Prop where
 o1:1≤i.op
 o2:i.op≤59
 d0:0≤i.rd
 d1:i.rd<32
 a0:0≤i.r1
 a1:i.r1<32
 b0:0≤i.r2
 b1:i.r2<32
theorem body_li {r1 r2 im:Int}(hd0:0≤rd)(hr:rd<32)(ho:op=19)(h:r1=0∨rd=0):BodyI bf bt steps a op rd r1 r2 im [⟨2,rd,0,0,lo im⟩]:=fun q ov ok st z hh hl=>by
 rw [one_run ov]
 have e:mic bf bt steps q ⟨2,rd,0,0,lo im⟩=q.put rd (lo im):=by unfold mic;rw [if_neg (by simp),if_pos rfl]
 have hE:eff (q.h.go a) q.m op (rg q.h r1.toNat) (rg q.h r2.toNat) (lo im)=⟨q.h.go a,q.m,[],[],some (alu 28 (rg q.h r1.toNat) (lo im))⟩:=by
  subst ho
  unfold eff
  rw [if_neg (by omega),if_neg (by omega),if_neg (by omega),if_neg (by omega),if_neg (by omega),if_pos (by omega)]
  rfl
 have e2:q.put rd (lo im)=q.put rd (alu 28 (rg q.h r1.toNat) (lo im)):=by
  rcases h with rfl|rfl
  ·have:alu 28 (rg q.h (0:Int).toNat) (lo im)=lo im:=by
    show alu 28 (rg q.h 0) (lo im)=lo im
    rw [z,alu_add,Int.zero_add]
    exact lo_id (W.lo _)
   rw [this]
  ·rw [put_low q (by omega),put_low q (by omega)]
   rfl
 rw [e,e2]
 exact ⟨fit_put ok ov st hh hr (W.alu (ok.h.reg _) (W.lo _)) hE (by omega),over_no (op:=op) (bf:=bf) (bt:=bt) (a:=a) ov⟩
theorem body_md (h:i.In):BodyI bf bt steps a i.op i.rd i.r1 i.r2 i.im (mdV a i):=by
 obtain ⟨o1,o2,d0,d1,a0,a1,b0,b1⟩:=h
 unfold mdV
 by_cases h0:i.op=1
 ·rw [if_pos h0];exact body_lui d1 h0
 rw [if_neg h0]
 by_cases h1:i.op=2
 ·rw [if_pos h1];exact body_auipc d1 h1
 rw [if_neg h1]
 by_cases h2:i.op=3
 ·rw [if_pos h2];exact body_jal d1 h2
 rw [if_neg h2]
 by_cases h3:i.op=4
 ·rw [if_pos h3];exact body_jalr2 32 (by omega) (by omega) d1 a1 h3
 rw [if_neg h3]
 by_cases h4:5≤i.op∧i.op≤10
 ·rw [if_pos h4];exact body_if a1 b1 h4
 rw [if_neg h4]
 by_cases h5:11≤i.op∧i.op≤15
 ·rw [if_pos h5];exact body_ld d1 a1 h5
 rw [if_neg h5]
 by_cases h6:16≤i.op∧i.op≤18
 ·rw [if_pos h6];exact body_st a1 b1 h6
 rw [if_neg h6]
 by_cases h7:i.op=19∧(i.r1=0∨i.rd=0)
 ·rw [if_pos h7];exact body_li d0 d1 h7.1 h7.2
 rw [if_neg h7]
 by_cases h8:19≤i.op∧i.op≤27
 ·rw [if_pos h8];exact body_aln d1 a1 h8
 rw [if_neg h8]
 by_cases h9:28≤i.op∧i.op≤45
 ·rw [if_pos h9];exact body_alu d1 a1 b1 h9
 rw [if_neg h9]
 by_cases h10:46≤i.op∧i.op≤56
 ·rw [if_pos h10];exact body_atom d1 a1 b1 h10
 rw [if_neg h10]
 by_cases h11:i.op=58
 ·rw [if_pos h11];exact body_call h11
 rw [if_neg h11]
 by_cases h12:i.op=59
 ·rw [if_pos h12];exact body_break h12
 rw [if_neg h12]
 exact body_fence (by omega)
theorem ok_of {i:Mv}{nm:Int}(hn:named i.op=nm)(h0:0≤nm)(hN:8≤nm∨i.n=0)(hd:(nm%2=1∨i.d=0)∧0≤i.d∧i.d<36)(ha:(nm/2%2=1∨i.a=0)∧0≤i.a∧i.a<36)(hb:(nm/4%2=1∨i.b=0)∧0≤i.b∧i.b<36):micOk i=true:=by
 unfold micOk regOk
 rw [hn]
 simp only [Bool.and_eq_true,decide_eq_true_eq]
 exact ⟨h0,hN,hd,ha,hb⟩
theorem nm_if (h:5≤op∧op≤10):named (100+op)=14:=by unfold named;rw [if_neg (by omega),if_neg (by omega),if_neg (by omega),if_neg (by omega),if_pos (by omega)]
theorem nm_ld (h:11≤op∧op≤15):named (200+op)=11:=by unfold named;rw [if_neg (by omega),if_neg (by omega),if_neg (by omega),if_neg (by omega),if_neg (by omega),if_pos (by omega)]
theorem nm_st (h:16≤op∧op≤18):named (300+op)=14:=by unfold named;rw [if_neg (by omega),if_neg (by omega),if_neg (by omega),if_neg (by omega),if_neg (by omega),if_neg (by omega),if_pos (by omega)]
theorem nm_alu (h:28≤op∧op≤45):named (400+op)=7:=by unfold named;rw [if_neg (by omega),if_neg (by omega),if_neg (by omega),if_neg (by omega),if_neg (by omega),if_neg (by omega),if_neg (by omega),if_pos (by omega)]
theorem nm_aln (h:28≤op∧op≤45):named (500+op)=11:=by unfold named;rw [if_neg (by omega),if_neg (by omega),if_neg (by omega),if_neg (by omega),if_neg (by omega),if_neg (by omega),if_neg (by omega),if_neg (by omega),if_pos (by omega)]
theorem nm_atm (h:46≤op∧op≤56):named (600+op)=7:=by unfold named;rw [if_neg (by omega),if_neg (by omega),if_neg (by omega),if_neg (by omega),if_neg (by omega),if_neg (by omega),if_neg (by omega),if_neg (by omega),if_neg (by omega),if_pos (by omega)]
theorem opn_bd (op:Int):28≤opn op∧opn op≤45:=by unfold opn;(repeat' split)<;>omega
def Mv.Fine (i:Mv):Prop:=micOk i=true∧W i.n∧(0≤i.op∧i.op≤700)
theorem one_mem {P:Mv→Prop}{y:Mv}(h:P y):∀x∈[y],P x:=fun x hx=>by rw [List.mem_singleton] at hx;subst hx;exact h
theorem z1:(0:Int)≤0:=by decide
theorem z2:(0:Int)<36:=by decide
theorem z3 (n:Int)(h:(0:Int)≤n):0≤n:=h
theorem z4 (n:Int)(h:n≤700):n≤700:=h
theorem z5:(32:Int)<36:=by decide
theorem set_fine {n:Int}(d0:0≤rd)(d1:rd<32)(hn:W n):Mv.Fine ⟨2,rd,0,0,n⟩:=⟨ok_of (nm:=9) (by show named 2=9;decide) (by omega) (by left;omega) ⟨.inl (by decide),d0,by show rd<36;omega⟩ ⟨.inr rfl,z1,z2⟩ ⟨.inr rfl,z1,z2⟩,hn,z3 2 (by decide),z4 2 (by decide)⟩
theorem md_fine (h:i.In):(∀x∈mdV a i,Mv.Fine x)∧(mdV a i).length≤3:=by
 obtain ⟨o1,o2,d0,d1,a0,a1,b0,b1⟩:=h
 have w0:W 0:=by unfold W;omega
 have hop:=opn_bd i.op
 have set_:∀n,W n→Mv.Fine ⟨2,i.rd,0,0,n⟩:=fun n hn=>set_fine d0 d1 hn
 unfold mdV
 by_cases h0:i.op=1
 ·rw [if_pos h0]
  exact ⟨one_mem (set_ _ (W.lo _)),by simp⟩
 rw [if_neg h0]
 by_cases h1:i.op=2
 ·rw [if_pos h1]
  exact ⟨one_mem (set_ _ (W.lo _)),by simp⟩
 rw [if_neg h1]
 by_cases h2:i.op=3
 ·rw [if_pos h2]
  refine ⟨fun x hx=>?_,by simp⟩
  rcases List.mem_cons.1 hx with rfl|hx
  ·exact set_ _ (W.lo _)
  ·refine one_mem (P:=Mv.Fine) ?_ x hx
   exact ⟨ok_of (nm:=8) (by show named 3=8;decide) (by omega) (by left;omega) ⟨.inr rfl,z1,z2⟩ ⟨.inr rfl,z1,z2⟩ ⟨.inr rfl,z1,z2⟩,W.lo _,z3 3 (by decide),z4 3 (by decide)⟩
 rw [if_neg h2]
 by_cases h3:i.op=4
 ·rw [if_pos h3]
  refine ⟨fun x hx=>?_,by simp⟩
  rcases List.mem_cons.1 hx with rfl|hx
  ·exact ⟨ok_of (nm:=11) (by show named 528=11;decide) (by omega) (by left;omega) ⟨.inl (by decide),z3 32 (by decide),z5⟩ ⟨.inl (by decide),a0,by show i.r1<36;omega⟩ ⟨.inr rfl,z1,z2⟩,W.lo _,z3 528 (by decide),z4 528 (by decide)⟩
  rcases List.mem_cons.1 hx with rfl|hx
  ·exact set_ _ (W.lo _)
  ·refine one_mem (P:=Mv.Fine) ?_ x hx
   exact ⟨ok_of (nm:=10) (by show named 4=10;decide) (by omega) (by left;omega) ⟨.inr rfl,z1,z2⟩ ⟨.inl (by decide),z3 32 (by decide),z5⟩ ⟨.inr rfl,z1,z2⟩,w0,z3 4 (by decide),z4 4 (by decide)⟩
 rw [if_neg h3]
 by_cases h4:5≤i.op∧i.op≤10
 ·rw [if_pos h4]
  exact ⟨one_mem ⟨ok_of (nm:=14) (nm_if h4) (by omega) (by left;omega) ⟨.inr rfl,z1,z2⟩ ⟨.inl (by decide),a0,by show i.r1<36;omega⟩ ⟨.inl (by decide),b0,by show i.r2<36;omega⟩,W.lo _,by show (0:Int)≤100+i.op;omega,by show 100+i.op≤700;omega⟩,by simp⟩
 rw [if_neg h4]
 by_cases h5:11≤i.op∧i.op≤15
 ·rw [if_pos h5]
  exact ⟨one_mem ⟨ok_of (nm:=11) (nm_ld h5) (by omega) (by left;omega) ⟨.inl (by decide),d0,by show i.rd<36;omega⟩ ⟨.inl (by decide),a0,by show i.r1<36;omega⟩ ⟨.inr rfl,z1,z2⟩,W.lo _,by show (0:Int)≤200+i.op;omega,by show 200+i.op≤700;omega⟩,by simp⟩
 rw [if_neg h5]
 by_cases h6:16≤i.op∧i.op≤18
 ·rw [if_pos h6]
  exact ⟨one_mem ⟨ok_of (nm:=14) (nm_st h6) (by omega) (by left;omega) ⟨.inr rfl,z1,z2⟩ ⟨.inl (by decide),a0,by show i.r1<36;omega⟩ ⟨.inl (by decide),b0,by show i.r2<36;omega⟩,W.lo _,by show (0:Int)≤300+i.op;omega,by show 300+i.op≤700;omega⟩,by simp⟩
 rw [if_neg h6]
 by_cases h7:i.op=19∧(i.r1=0∨i.rd=0)
 ·rw [if_pos h7]
  exact ⟨one_mem (set_ _ (W.lo _)),by simp⟩
 rw [if_neg h7]
 by_cases h8:19≤i.op∧i.op≤27
 ·rw [if_pos h8]
  exact ⟨one_mem ⟨ok_of (nm:=11) (nm_aln hop) (by omega) (by left;omega) ⟨.inl (by decide),d0,by show i.rd<36;omega⟩ ⟨.inl (by decide),a0,by show i.r1<36;omega⟩ ⟨.inr rfl,z1,z2⟩,W.lo _,by show (0:Int)≤500+opn i.op;omega,by show 500+opn i.op≤700;omega⟩,by simp⟩
 rw [if_neg h8]
 by_cases h9:28≤i.op∧i.op≤45
 ·rw [if_pos h9]
  exact ⟨one_mem ⟨ok_of (nm:=7) (nm_alu h9) (by omega) (by right;rfl) ⟨.inl (by decide),d0,by show i.rd<36;omega⟩ ⟨.inl (by decide),a0,by show i.r1<36;omega⟩ ⟨.inl (by decide),b0,by show i.r2<36;omega⟩,w0,by show (0:Int)≤400+i.op;omega,by show 400+i.op≤700;omega⟩,by simp⟩
 rw [if_neg h9]
 by_cases h10:46≤i.op∧i.op≤56
 ·rw [if_pos h10]
  exact ⟨one_mem ⟨ok_of (nm:=7) (nm_atm h10) (by omega) (by right;rfl) ⟨.inl (by decide),d0,by show i.rd<36;omega⟩ ⟨.inl (by decide),a0,by show i.r1<36;omega⟩ ⟨.inl (by decide),b0,by show i.r2<36;omega⟩,w0,by show (0:Int)≤600+i.op;omega,by show 600+i.op≤700;omega⟩,by simp⟩
 rw [if_neg h10]
 by_cases h11:i.op=58
 ·rw [if_pos h11]
  exact ⟨one_mem ⟨by decide,w0,by decide,by decide⟩,by simp⟩
 rw [if_neg h11]
 by_cases h12:i.op=59
 ·rw [if_pos h12]
  exact ⟨one_mem ⟨by decide,w0,by decide,by decide⟩,by simp⟩
 rw [if_neg h12]
 exact ⟨fun x hx=>(by cases hx),by simp⟩
def codeV (pc:Int):List Iv→Nat→List Mv
 | [],_=>[]
 | i::is,k=>⟨1,0,0,0,at4 pc k⟩::(mdV (at4 pc k) i++codeV pc is (k+1))
theorem codeV_snoc (pc:Int)(i:Iv):∀(is:List Iv) (k:Nat),codeV pc (is++[i]) k=codeV pc is k++(⟨1,0,0,0,at4 pc (k+is.length)⟩::mdV (at4 pc (k+is.length)) i)
 | [],k=>by simp [codeV]
 | j::is,k=>by
  show _::(_++codeV pc (is++[i]) (k+1))=_
  rw [codeV_snoc pc i is (k+1)]
  simp [codeV,show k+1+is.length=k+(is.length+1) by omega]
theorem at_fine (a:Int)(h:W a):Mv.Fine ⟨1,0,0,0,a⟩:=⟨ok_of (nm:=8) (by show named 1=8;decide) (by omega) (by left;omega) ⟨.inr rfl,z1,z2⟩ ⟨.inr rfl,z1,z2⟩ ⟨.inr rfl,z1,z2⟩,h,z3 1 (by decide),z4 1 (by decide)⟩
theorem codeV_fine (pc:Int):∀(is:List Iv) (k:Nat),(∀i∈is,i.In)→(∀x∈codeV pc is k,Mv.Fine x)∧(codeV pc is k).length≤4*is.length
 | [],k,_=>⟨fun x hx=>(by cases hx),by simp [codeV]⟩
 | i::is,k,h=>by
  obtain ⟨m1,m2⟩:=md_fine (a:=at4 pc k) (h i (by simp))
  obtain ⟨c1,c2⟩:=codeV_fine pc is (k+1) (fun j hj=>h j (by simp [hj]))
  refine ⟨fun x hx=>?_,?_⟩
  ·simp only [codeV,List.mem_cons,List.mem_append] at hx
   rcases hx with rfl|hx|hx
   ·exact at_fine _ (at4_bd pc k)
   ·exact m1 x hx
   ·exact c1 x hx
  ·simp only [codeV,List.length_cons,List.length_append]
   omega
theorem codeV_may (pc:Int){is:List Iv}(h:∀i∈is,i.In)(hl:is.length≤16):mayC (codeV pc is 0)=true:=by
 obtain ⟨c1,c2⟩:=codeV_fine pc is 0 h
 unfold mayC
 simp only [Bool.and_eq_true,decide_eq_true_eq,List.all_eq_true]
 exact ⟨by omega,fun x hx=>(c1 x hx).1⟩
def ivX (x:Int):Iv:=⟨Dc.dop x,Dc.rdF (Dc.frm (Dc.dop x)) x,Dc.rs1F (Dc.frm (Dc.dop x)) x,Dc.rs2F (Dc.frm (Dc.dop x)) x,Dc.immF (Dc.frm (Dc.dop x)) x⟩
theorem ivX_in {x:Int}(h0:0≤x)(h1:x<4294967296)(hx:¬Dc.dop x=0):(ivX x).In:=by
 have:=Re.dop_bd h0 h1
 have a:=rd_bd (Dc.frm (Dc.dop x)) x
 have b:=rs1_bd (Dc.frm (Dc.dop x)) x
 have c:=rs2_bd (Dc.frm (Dc.dop x)) x
 exact ⟨by show 1≤Dc.dop x;omega,by show Dc.dop x≤59;omega,a.1,a.2,b.1,b.2,c.1,c.2⟩
end Go.Proofs.YtchllaeembmioaaGreatDoor.Ts
namespace Go.Proofs.YtchllaeembmioaaGreatDoor.Mc
open Mm Hh

structure Sh where
 hs:List Hv
 m:List UInt8
 out:List Int
 steps:Nat
def hN:Hv:=⟨[],0,false,0,1,0⟩
def near (x f k:Int):Bool:=decide (0<k∧f<x+4∧x<f+k)
def nearS (x:Int) (ss:List (Int×Int)):Bool:=ss.any fun p=>near x p.1 p.2
def lose1 (ss:List (Int×Int)) (h:Hv):Hv:=if h.held=true∧nearS h.heldAt ss=true then h.hold false 0 else h
def lose (k:Nat) (ss:List (Int×Int)) (hs:List Hv):List Hv:=hs.mapIdx fun j h=>if j=k then h else lose1 ss h
def at' (s:Sh) (k:Nat):Hv:=s.hs.getD k hN
def stepS (s:Sh) (k:Nat):Sh:=⟨lose k (stp (at' s k) s.m).sto (s.hs.set k (stp (at' s k) s.m).h),(stp (at' s k) s.m).m,s.out++(stp (at' s k) s.m).out,s.steps+1⟩
def runs (s:Sh) (k:Nat):Nat→Sh
 | 0=>s
 | n+1=>if (at' s k).state=0 then runs (stepS s k) k n else s
def play (s:Sh) (sc:List (Nat×Nat)):Sh:=sc.foldl (fun s p=>runs s p.1 p.2) s
theorem runs_stop {s:Sh}{k:Nat}(h:¬(at' s k).state=0):∀n,runs s k n=s
 | 0=>rfl
 | n+1=>if_neg h
theorem runs_add (k b:Nat):∀(a:Nat) (s:Sh),runs s k (a+b)=runs (runs s k a) k b
 | 0,s=>by rw [Nat.zero_add];rfl
 | a+1,s=>by
  have e1:∀t,runs s k (t+1)=if (at' s k).state=0 then runs (stepS s k) k t else s:=fun t=>rfl
  rw [Nat.succ_add,e1,e1]
  split
  ·rw [runs_add k b a]
  ·rename_i h
   exact (runs_stop h b).symm
theorem play_app (s:Sh)(a b:List (Nat×Nat)):play s (a++b)=play (play s a) b:=List.foldl_append
theorem play_cons (s:Sh)(p:Nat×Nat)(r:List (Nat×Nat)):play s (p::r)=play (runs s p.1 p.2) r:=rfl
structure Fit (s:Sh) (c n:Nat):Prop where
 len:s.hs.length=c
 mem:s.m.length=n
 ok:∀h∈s.hs,h.Ok∧may h=true
theorem lose1_fit (ss:List (Int×Int)){h:Hv}(o:h.Ok)(m:may h=true):(lose1 ss h).Ok∧may (lose1 ss h)=true:=by
 unfold lose1
 split
 ·refine ⟨o.hold false (x:=0) (by omega) (by omega),?_⟩
  simp only [may,decide_eq_true_eq] at m ⊢
  exact ⟨m.1,fun _=>rfl,m.2.2⟩
 ·exact ⟨o,m⟩
theorem lose_len (k:Nat)(ss:List (Int×Int))(hs:List Hv):(lose k ss hs).length=hs.length:=by simp [lose]
theorem lose_get (k:Nat)(ss:List (Int×Int))(hs:List Hv)(j:Nat):(lose k ss hs)[j]?=hs[j]?.map fun h=>if j=k then h else lose1 ss h:=by
 simp [lose,List.getElem?_mapIdx]
theorem mem_of_get {l:List Hv}{j:Nat}{h:Hv}(e:l[j]?=some h):h∈l:=List.mem_of_getElem? e
theorem step_fit {s:Sh}{c n k:Nat}(f:Fit s c n)(hk:k<c)(hr:(at' s k).state=0):Fit (stepS s k) c n:=by
 have hl:k<s.hs.length:=by rw [f.len];exact hk
 have eh:s.hs[k]?=some (at' s k):=by unfold at';rw [List.getElem?_eq_getElem hl];simp [List.getD,hl]
 obtain ⟨ok,mk⟩:=f.ok _ (mem_of_get eh)
 have g:=good_stp (rn_of mk hr) s.m
 have so:=stp_ok ok s.m
 refine ⟨by simp [stepS,lose_len,f.len],by simp only [stepS];rw [g.2.1,f.mem],fun h hm=>?_⟩
 obtain ⟨j,hj⟩:=List.getElem?_of_mem hm
 simp only [stepS] at hj
 rw [lose_get,List.getElem?_set] at hj
 by_cases e:k=j
 ·subst e
  simp only [if_true,hl,Option.map_some] at hj
  obtain rfl:=Option.some.inj hj
  exact ⟨so,g.1⟩
 ·simp only [e,if_false] at hj
  cases hq:s.hs[j]? with
  | none=>rw [hq] at hj;cases hj
  | some q=>
   rw [hq] at hj
   obtain ⟨a,b⟩:=f.ok q (mem_of_get hq)
   have e2:¬j=k:=fun x=>e x.symm
   simp only [Option.map_some,e2,if_false] at hj
   obtain rfl:=Option.some.inj hj
   exact lose1_fit _ a b
theorem runs_fit {c n k:Nat}(hk:k<c):∀(t:Nat) {s:Sh},Fit s c n→Fit (runs s k t) c n
 | 0,s,f=>f
 | t+1,s,f=>by
  unfold runs
  split
  ·exact runs_fit hk t (step_fit f hk (by assumption))
  ·exact f
theorem play_fit {c n:Nat}:∀(sc:List (Nat×Nat)) {s:Sh},(∀p∈sc,p.1<c)→Fit s c n→Fit (play s sc) c n
 | [],s,_,f=>f
 | p::r,s,h,f=>by
  rw [play_cons]
  exact play_fit r (fun q hq=>h q (by simp [hq])) (runs_fit (h p (by simp)) p.2 f)
end Go.Proofs.YtchllaeembmioaaGreatDoor.Mc
namespace Go.Proofs.YtchllaeembmioaaGreatDoor.Mc
open Mm Hh Wd

structure Wk where
 h:Hv
 m:List UInt8
 out:List Int
 sto:List (Int×Int)
 n:Nat
def wk1 (x:Wk):Wk:=⟨(stp x.h x.m).h,(stp x.h x.m).m,x.out++(stp x.h x.m).out,x.sto++(stp x.h x.m).sto,x.n+1⟩
def wk (x:Wk):Nat→Wk
 | 0=>x
 | n+1=>if x.h.state=0 then wk (wk1 x) n else x
theorem wk_stop {x:Wk}(h:¬x.h.state=0):∀n,wk x n=x
 | 0=>rfl
 | n+1=>if_neg h
theorem wk_go {x:Wk}(h:x.h.state=0)(n:Nat):wk x (n+1)=wk (wk1 x) n:=if_pos h
def tk (s:Sh) (k:Nat) (x:Wk):Sh:=⟨(lose k x.sto s.hs).set k x.h,x.m,s.out++x.out,s.steps+x.n⟩
def w0 (s:Sh) (k:Nat):Wk:=⟨at' s k,s.m,[],[],0⟩
theorem lose1_nil (h:Hv):lose1 [] h=h:=by unfold lose1;rw [if_neg];simp [nearS]
theorem lose1_app (a b:List (Int×Int))(h:Hv):lose1 (a++b) h=lose1 b (lose1 a h):=by
 unfold lose1
 have e:nearS h.heldAt (a++b)=(nearS h.heldAt a || nearS h.heldAt b):=by unfold nearS;rw [List.any_append]
 rw [e]
 by_cases hh:h.held=true
 ·cases ha:nearS h.heldAt a with
  | true=>simp [hh,Hv.hold]
  | false=>simp [hh,ha]
 ·simp [hh]
theorem lose_nil (k:Nat)(hs:List Hv):lose k [] hs=hs:=by
 apply List.ext_getElem?
 intro j
 rw [lose_get]
 cases hs[j]? with
 | none=>rfl
 | some h=>simp [lose1_nil]
theorem set_at (hs:List Hv)(k:Nat):hs.set k (hs.getD k hN)=hs:=by
 apply List.ext_getElem?
 intro j
 rw [List.getElem?_set]
 split
 ·rename_i e
  subst e
  split
  ·rename_i h
   simp [List.getD,List.getElem?_eq_getElem h]
  ·rename_i h
   rw [List.getElem?_eq_none (by omega)]
 ·rfl
theorem tk_w0 (s:Sh)(k:Nat):tk s k (w0 s k)=s:=by
 unfold tk w0 at'
 simp only [lose_nil,set_at,List.append_nil,Nat.add_zero]
theorem step_tk {s:Sh}{k:Nat}(hk:k<s.hs.length)(x:Wk):stepS (tk s k x) k=tk s k (wk1 x):=by
 have e:at' (tk s k x) k=x.h:=by
  unfold at' tk
  simp [List.getD,List.getElem?_set,lose_len,hk]
 unfold stepS
 rw [e]
 unfold tk wk1
 simp only [List.append_assoc,Nat.add_assoc]
 congr 1
 apply List.ext_getElem?
 intro j
 rw [lose_get,List.getElem?_set,List.getElem?_set,List.getElem?_set,lose_get,lose_get]
 by_cases e:k=j
 ·subst e
  simp [lose_len,hk]
 ·have e2:¬j=k:=fun q=>e q.symm
  simp only [e,e2,if_false]
  cases s.hs[j]? with
  | none=>rfl
  | some h=>simp [lose1_app]
theorem runs_tk {s:Sh}{k:Nat}(hk:k<s.hs.length):∀(n:Nat) (x:Wk),runs (tk s k x) k n=tk s k (wk x n)
 | 0,x=>rfl
 | n+1,x=>by
  have e:at' (tk s k x) k=x.h:=by
   unfold at' tk
   simp [List.getD,List.getElem?_set,lose_len,hk]
  unfold runs wk
  rw [e]
  split
  ·rw [step_tk hk,runs_tk hk n]
  ·rfl
theorem runs_wk {s:Sh}{k:Nat}(hk:k<s.hs.length)(n:Nat):runs s k n=tk s k (wk (w0 s k) n):=by
 have:=runs_tk hk n (w0 s k)
 rwa [tk_w0] at this
def StOk (l:List UInt8) (p:Int×Int):Prop:=0≤p.1∧0<p.2∧p.1+p.2≤l.length
theorem sto_st {l:List UInt8}{op a:Int}(ha:0≤a)(h:stOk l op a=true):StOk l (a,(ssz op:Nat)):=by
 unfold stOk thr at h
 rw [decide_eq_true_eq] at h
 exact ⟨ha,by simpa using h.1,h.2.2⟩
theorem eff_sto {h:Hv}(o:h.Ok)(l:List UInt8){op a b n:Int}(ha:W a):∀p∈(eff h l op a b n).sto,StOk l p:=by
 unfold eff
 intro p hp
 split at hp
 ·simp at hp
 split at hp
 ·simp at hp
 split at hp
 ·simp at hp
 split at hp
 ·unfold efLoad at hp;split at hp<;>simp at hp
 split at hp
 ·unfold efStore at hp
  split at hp
  ·simp at hp
   subst hp
   exact sto_st (W.lo _).1 (by assumption)
  ·simp at hp
 split at hp
 ·simp at hp
 split at hp
 ·simp at hp
 split at hp
 ·unfold efAtom at hp
  split at hp
  ·unfold efLr at hp;split at hp<;>simp at hp
  split at hp
  ·unfold efSc at hp
   split at hp
   ·split at hp
    ·simp at hp
     subst hp
     exact sto_st (op:=18) ha.1 (st_of_ld (by assumption))
    ·simp at hp
   ·simp at hp
  ·unfold efAmo at hp
   split at hp
   ·simp at hp
    subst hp
    exact sto_st (op:=18) ha.1 (st_of_ld (by assumption))
   ·simp at hp
 split at hp
 ·unfold efCall at hp
  split at hp
  ·simp at hp
  ·split at hp<;>simp at hp
 split at hp<;>simp at hp
theorem stp_sto {h:Hv}(o:h.Ok)(l:List UInt8):(∀p∈(stp h l).sto,StOk l p)∧(stp h l).sto.length≤1:=by
 unfold stp insW ins
 split
 ·split
  ·exact ⟨fun p hp=>by simp at hp,by simp⟩
  ·exact ⟨eff_sto o l (W.reg o _),(eff_ok o l (W.reg o _) (W.reg o _) (W.lo _)).sto⟩
 ·exact ⟨fun p hp=>by simp at hp,by simp⟩
structure WOk (x:Wk) (n:Nat):Prop where
 ok:x.h.Ok
 may:may x.h=true
 mem:x.m.length=n
 out:x.out.length≤x.n
 sto:x.sto.length≤x.n
 bd:∀p∈x.sto,0≤p.1∧0<p.2∧p.1+p.2≤n
theorem wk1_ok {x:Wk}{n:Nat}(o:WOk x n)(hr:x.h.state=0):WOk (wk1 x) n:=by
 have g:=good_stp (rn_of o.may hr) x.m
 have s:=stp_sto o.ok x.m
 refine ⟨stp_ok o.ok x.m,g.1,g.2.1.trans o.mem,?_,?_,fun p hp=>?_⟩
 ·have:=g.2.2.2.1;have:=o.out;simp only [wk1,List.length_append];omega
 ·have:=s.2;have:=o.sto;simp only [wk1,List.length_append];omega
 ·rcases List.mem_append.1 hp with h|h
  ·exact o.bd p h
  ·have:=s.1 p h
   unfold StOk at this
   rwa [o.mem] at this
theorem w0_ok {s:Sh}{c n k:Nat}(f:Fit s c n)(hk:k<c):WOk (w0 s k) n:=by
 have hl:k<s.hs.length:=by rw [f.len];exact hk
 have eh:s.hs[k]?=some (at' s k):=by unfold at';rw [List.getElem?_eq_getElem hl];simp [List.getD,hl]
 obtain ⟨ok,mk⟩:=f.ok _ (mem_of_get eh)
 exact ⟨ok,mk,f.mem,Nat.le_refl _,Nat.le_refl _,fun p hp=>by simp [w0] at hp⟩
def loses (k:Nat) (p:Int×Int) (j:Nat) (h:Hv):Bool:=decide (j≠k) && (h.held && near h.heldAt p.1 p.2)
def lostU (k:Nat) (p:Int×Int) (hs:List Hv):Nat→List (Nat×Int)
 | 0=>[]
 | j+1=>lostU k p hs j++(if loses k p j (hs.getD j hN)=true then [(j,(hs.getD j hN).heldAt)] else [])
theorem lostU_len (k:Nat)(p:Int×Int)(hs:List Hv):∀j,(lostU k p hs j).length≤j
 | 0=>Nat.le_refl _
 | j+1=>by
  have:=lostU_len k p hs j
  unfold lostU
  rw [List.length_append]
  split
  ·simp;omega
  ·simp;omega
theorem lostU_lt (k:Nat)(p:Int×Int)(hs:List Hv):∀j,∀q∈lostU k p hs j,q.1<j
 | 0,q,h=>by simp [lostU] at h
 | j+1,q,h=>by
  unfold lostU at h
  rcases List.mem_append.1 h with h|h
  ·have:=lostU_lt k p hs j q h;omega
  ·split at h
   ·simp at h;subst h;simp
   ·simp at h
def drops (hs:List Hv) (ls:List (Nat×Int)):List Hv:=ls.foldl (fun hs l=>hs.set l.1 ((hs.getD l.1 hN).hold false 0)) hs
theorem drops_app (hs:List Hv)(a b:List (Nat×Int)):drops hs (a++b)=drops (drops hs a) b:=List.foldl_append
theorem drops_len:∀(ls:List (Nat×Int)) (hs:List Hv),(drops hs ls).length=hs.length
 | [],hs=>rfl
 | l::r,hs=>by
  show (drops (hs.set l.1 _) r).length=_
  rw [drops_len r];simp
theorem drops_lost (k:Nat)(p:Int×Int)(hs:List Hv):∀j,j≤hs.length→∀i,(drops hs (lostU k p hs j))[i]?=if i<j then (lose k [p] hs)[i]? else hs[i]?
 | 0,_,i=>by simp [lostU,drops]
 | j+1,hj,i=>by
  have ih:=drops_lost k p hs j (by omega)
  have ej:(drops hs (lostU k p hs j)).getD j hN=hs.getD j hN:=by
   simp only [List.getD]
   rw [ih j,if_neg (by omega)]
  have hjl:j<hs.length:=by omega
  have eg:hs[j]?=some (hs.getD j hN):=by rw [List.getElem?_eq_getElem hjl];simp [List.getD,hjl]
  have el:(lose k [p] hs)[j]?=some (if loses k p j (hs.getD j hN)=true then (hs.getD j hN).hold false 0 else hs.getD j hN):=by
   rw [lose_get,eg,Option.map_some]
   congr 1
   generalize hs.getD j hN=h
   unfold lose1 loses nearS
   by_cases e:j=k
   ·simp [e]
   ·simp [e]
  unfold lostU
  rw [drops_app]
  by_cases hl:loses k p j (hs.getD j hN)=true
  ·rw [if_pos hl] at el ⊢
   show ((drops hs (lostU k p hs j)).set j (((drops hs (lostU k p hs j)).getD j hN).hold false 0))[i]?=_
   rw [ej,List.getElem?_set]
   by_cases e:j=i
   ·subst e
    rw [if_pos rfl,if_pos (by rw [drops_len];exact hjl),if_pos (by omega),el]
   ·rw [if_neg e,ih i]
    by_cases h2:i<j
    ·rw [if_pos h2,if_pos (by omega)]
    ·rw [if_neg h2,if_neg (by omega)]
  ·rw [if_neg hl] at el ⊢
   show (drops hs (lostU k p hs j))[i]?=_
   rw [ih i]
   by_cases e:i=j
   ·subst e
    rw [if_neg (by omega),if_pos (by omega),el,eg]
   ·by_cases h2:i<j
    ·rw [if_pos h2,if_pos (by omega)]
    ·rw [if_neg h2,if_neg (by omega)]
theorem drops_all (k:Nat)(p:Int×Int)(hs:List Hv):drops hs (lostU k p hs hs.length)=lose k [p] hs:=by
 apply List.ext_getElem?
 intro i
 rw [drops_lost k p hs _ (Nat.le_refl _) i]
 split
 ·rfl
 ·rename_i h
  rw [List.getElem?_eq_none (by omega),List.getElem?_eq_none (by rw [lose_len];omega)]
theorem lose_app (k:Nat)(a b:List (Int×Int))(hs:List Hv):lose k (a++b) hs=lose k b (lose k a hs):=by
 apply List.ext_getElem?
 intro j
 rw [lose_get,lose_get,lose_get]
 cases hs[j]? with
 | none=>rfl
 | some h=>
  simp only [Option.map_some]
  split
  ·rfl
  ·rw [lose1_app]
theorem meets_near {x f k n:Int}(hx0:0≤x)(hx:x<4294967296)(h0:0≤f)(hk:0<k)(hf:f+k≤n)(hn:n≤4096):near x f k=(decide (x<f+k) && decide (f<x+4)):=by
 unfold near
 by_cases a:x<f+k<;>by_cases b:f<x+4<;>simp [a,b,hk]
end Go.Proofs.YtchllaeembmioaaGreatDoor.Mc
namespace Go.Proofs.YtchllaeembmioaaGreatDoor.En
open Mm Wd Mi Bk Ts Kc
open Mc hiding Fit
open Hh hiding Rn

variable {l l' : List UInt8} {b : Bv} {steps : Int} {s : Sh} {k n : Nat}
def rnW (r:Mi.Rn):Wk:=⟨r.h,r.m,r.out,r.sto,r.n⟩
theorem rnW_b1 (r:Mi.Rn):rnW (b1 r)=wk1 (rnW r):=rfl
theorem bst_wk (bpc last steps:Int):∀(f k:Nat) (r:Mi.Rn),r.h.state=0→(r.n:Int)≤steps→∃c,c≤f∧rnW (bst bpc last steps f k r)=wk (rnW r) c∧(bst bpc last steps f k r).n=r.n+c∧((bst bpc last steps f k r).n:Int)≤steps∧(0<f→(r.n:Int)<steps→0<c)
 | 0,k,r,_,hn=>⟨0,Nat.le_refl _,rfl,rfl,hn,fun h=>absurd h (by omega)⟩
 | f+1,k,r,hs,hn=>by
  unfold bst
  split
  ·rename_i hlt
   split
   ·refine ⟨1,by omega,?_,rfl,?_,fun _ _=>by omega⟩
    ·rw [rnW_b1,wk_go hs]
     rfl
    ·show ((r.n+1:Nat):Int)≤steps
     omega
   ·rename_i hb
    have hs2:(b1 r).h.state=0:=by
     unfold bstop at hb
     simp only [Bool.or_eq_true,decide_eq_true_eq,not_or,Classical.not_not] at hb
     exact hb.1
    obtain ⟨c,h1,h2,h3,h4,_⟩:=bst_wk bpc last steps f (k+1) (b1 r) hs2 (by show ((r.n+1:Nat):Int)≤steps;omega)
    refine ⟨c+1,by omega,?_,?_,h4,fun _ _=>by omega⟩
    ·rw [h2,rnW_b1,wk_go hs]
    ·rw [h3]
     show r.n+1+c=r.n+(c+1)
     omega
  ·exact ⟨0,by omega,rfl,rfl,hn,fun _ h=>absurd h (by assumption)⟩
structure FreshB (l:List UInt8) (b:Bv):Prop where
 pos:0<b.is.length
 pc0:0≤b.pc
 pc1:b.pc<4294967296
 le:b.is.length≤(blk l b.pc 16 0).length
 eq:b.is=((blk l b.pc 16 0).take b.is.length).map ivX
theorem FreshB.len (h:FreshB l b):b.is.length≤16:=Nat.le_trans h.le (blk_facts l b.pc 16 0).1
theorem fresh_make {pc:Int}(h0:0≤pc)(h1:pc<4294967296)(hp:0<(blk l pc 16 0).length):FreshB l ⟨pc,(blk l pc 16 0).map ivX⟩:=
 ⟨by simpa using hp,h0,h1,by simp,by simp⟩
theorem fresh_blkd (h:FreshB l b)(hl:l.length≤4096):Blkd l b.pc (b.pc+4*(b.is.length:Int)) b.is.length (fun j=>ldV l 13 (at4 b.pc j)):=by
 have B:=blkd_of hl h.pc0 h.pc1 (Nat.lt_of_lt_of_le h.pos h.le)
 have hle:=h.le
 have hf:=B.fit
 exact ⟨h.pos,h.pc0,rfl,hl,by omega,fun j hj=>B.at_ j (by omega),fun j hj=>B.ok j (by omega),fun j hj=>B.op j (by omega),fun j hj q=>by have:=B.fin j (by omega) q;omega⟩
theorem fresh_word (h:FreshB l b){j:Nat}(hj:j<b.is.length):b.is[j]?=some (ivX (ldV l 13 (at4 b.pc j)))∧¬Dc.dop (ldV l 13 (at4 b.pc j))=0:=by
 obtain ⟨f1,f2,_⟩:=(blk_facts l b.pc 16 0).2 j (Nat.lt_of_lt_of_le hj h.le)
 rw [Nat.zero_add] at f1 f2
 refine ⟨?_,(ft_zero f1).2⟩
 have e:=h.eq
 rw [e,List.getElem?_map,List.getElem?_take_of_lt hj,f2]
 rfl
theorem fresh_in (h:FreshB l b):∀i∈b.is,i.In:=fun i hi=>by
 obtain ⟨j,hj⟩:=List.mem_iff_getElem?.1 hi
 obtain ⟨e,hx⟩:=fresh_word h (List.getElem?_eq_some_iff.1 hj).1
 rw [e] at hj
 injection hj with hj
 subst hj
 have:=W.ldV l 13 (at4 b.pc j)
 exact ivX_in this.1 this.2 hx
theorem codeV_at (pc:Int)(d:Iv):∀(is:List Iv) (k:Nat) (bd:Nat→List Mv),(∀j i,is[j]?=some i→bd (k+j)=mdV (at4 pc (k+j)) i)→codeV pc is k=codeK pc bd is.length k
 | [],k,bd,_=>rfl
 | i::is,k,bd,h=>by
  show _::(_++codeV pc is (k+1))=_::(_++_)
  have h0:=h 0 i rfl
  rw [Nat.add_zero] at h0
  rw [codeV_at pc d is (k+1) bd (fun j i hi=>by
   have:=h (j+1) i (by simpa using hi)
   rwa [show k+(j+1)=k+1+j by omega] at this),h0]
theorem fresh_run (F:FreshB l b)(hl:l.length≤4096){h:Hv}(o:h.Ok)(hm:may h=true)(hs:h.state=0)(hp:h.pc=b.pc)(h0:0≤steps):
  Eqv (mplay b.pc (b.pc+4*(b.is.length:Int)) steps h l (codeV b.pc b.is 0)) (bst b.pc (b.pc+4*(b.is.length:Int)) steps b.is.length 0 (mstart h l)):=by
 have e:codeV b.pc b.is 0=codeK b.pc (fun j=>mdV (at4 b.pc j) (ivX (ldV l 13 (at4 b.pc j)))) b.is.length 0:=codeV_at b.pc ⟨0,0,0,0,0⟩ b.is 0 _ fun j i hi=>by
  obtain ⟨e,_⟩:=fresh_word F (List.getElem?_eq_some_iff.1 hi).1
  rw [e] at hi
  injection hi with hi
  subst hi
  rw [Nat.zero_add]
 rw [e,←List.append_nil (codeK _ _ _ _)]
 refine trans_run (fresh_blkd F hl) (fun j hj=>?_) (tail_nil _ _ _ _) o hm hs hp h0 (fun j hj=>rfl)
 have hx:=(fresh_word F hj).2
 have hb:=W.ldV l 13 (at4 b.pc j)
 exact body_of hx (body_md (i:=ivX (ldV l 13 (at4 b.pc j))) (ivX_in hb.1 hb.2 hx))
theorem fresh_may (F:FreshB l b):mayC (codeV b.pc b.is 0)=true:=codeV_may b.pc (fresh_in F) F.len
theorem block_run (hk:k<s.hs.length)(F:FreshB s.m b)(hl:s.m.length≤4096)(o:(at' s k).Ok)(hm:may (at' s k)=true)(hs:(at' s k).state=0)(hp:(at' s k).pc=b.pc)(h0:0<steps):
  ∃c:Nat,0<c∧(c:Int)≤steps∧c≤16∧(mplay b.pc (b.pc+4*(b.is.length:Int)) steps (at' s k) s.m (codeV b.pc b.is 0)).n=c∧rnW (mplay b.pc (b.pc+4*(b.is.length:Int)) steps (at' s k) s.m (codeV b.pc b.is 0))=wk (w0 s k) c∧
   runs s k c=tk s k (rnW (mplay b.pc (b.pc+4*(b.is.length:Int)) steps (at' s k) s.m (codeV b.pc b.is 0))):=by
 have E:=fresh_run F hl o hm hs hp (Int.le_of_lt h0)
 obtain ⟨c,h1,h2,h3,h4,h5⟩:=bst_wk b.pc (b.pc+4*(b.is.length:Int)) steps b.is.length 0 (mstart (at' s k) s.m) hs (by show ((0:Nat):Int)≤steps;omega)
 have eW:rnW (mplay b.pc (b.pc+4*(b.is.length:Int)) steps (at' s k) s.m (codeV b.pc b.is 0))=wk (w0 s k) c:=by
  have:rnW (mstart (at' s k) s.m)=w0 s k:=rfl
  rw [←this,←h2]
  unfold rnW
  rw [E.h,E.m,E.out,E.n,E.sto]
 have en:(bst b.pc (b.pc+4*(b.is.length:Int)) steps b.is.length 0 (mstart (at' s k) s.m)).n=c:=by rw [h3];show 0+c=c;omega
 refine ⟨c,h5 F.pos (by show ((0:Nat):Int)<steps;omega),by rw [en] at h4;exact h4,Nat.le_trans h1 F.len,by rw [E.n,en],eW,?_⟩
 rw [runs_wk hk,eW]
theorem wk_keep (hn:n≤4096)(bpc last:Int):∀(c:Nat) (x:Wk),WOk x n→∃t,(wk x c).sto=x.sto++t∧WOk (wk x c) n∧(t.any (hitB bpc last)=false→∀a,0≤a→bpc≤a→a+4≤last→ldV (wk x c).m 13 a=ldV x.m 13 a)
 | 0,x,w=>⟨[],by show x.sto=_;simp,w,fun _ a _ _ _=>rfl⟩
 | c+1,x,w=>by
  by_cases h:x.h.state=0
  ·rw [wk_go h]
   obtain ⟨t,e,w2,k2⟩:=wk_keep hn bpc last c (wk1 x) (wk1_ok w h)
   refine ⟨(stp x.h x.m).sto++t,by rw [e];show (x.sto++_)++t=_;rw [List.append_assoc],w2,fun hno a h0 h1 h2=>?_⟩
   rw [List.any_append,Bool.or_eq_false_iff] at hno
   rw [k2 hno.2 a h0 h1 h2]
   exact words_keep (stp_mem w.ok x.m) (bpc:=bpc) (last:=last) (by rw [w.mem];exact hn) hno.1 h0 h1 h2
  ·rw [wk_stop h]
   exact ⟨[],by simp,w,fun _ a _ _ _=>rfl⟩
theorem blk_keep (hl:l'.length=l.length)(pc:Int):∀(n k c:Nat),c≤(blk l pc n k).length→(∀j,j<c→ldV l' 13 (at4 pc (k+j))=ldV l 13 (at4 pc (k+j)))→(blk l' pc n k).take c=(blk l pc n k).take c∧c≤(blk l' pc n k).length
 | n,k,0,_,_=>by simp
 | 0,k,c+1,h,_=>absurd h (by simp [blk])
 | n+1,k,c+1,h,hw=>by
  have e0:ldV l' 13 (at4 pc k)=ldV l 13 (at4 pc k):=hw 0 (by omega)
  have eft:ftC l' (at4 pc k)=ftC l (at4 pc k):=by
   have eo:ldOk l' 13 (at4 pc k)=ldOk l 13 (at4 pc k):=by unfold ldOk;rw [hl]
   unfold ftC
   rw [eo,e0]
  by_cases hf:ftC l (at4 pc k)=0
  ·cases hlo:lastOp (Dc.dop (ldV l 13 (at4 pc k))) with
   | true=>
    rw [blk_last hf hlo] at h ⊢
    rw [blk_last (eft.trans hf) (by rw [e0];exact hlo),e0]
    exact ⟨rfl,h⟩
   | false=>
    rw [blk_on hf hlo] at h ⊢
    rw [blk_on (eft.trans hf) (by rw [e0];exact hlo),e0]
    obtain ⟨i1,i2⟩:=blk_keep hl pc n (k+1) c (by simpa using h) (fun j hj=>by
     have:=hw (j+1) (by omega)
     rwa [show k+(j+1)=k+1+j by omega] at this)
    refine ⟨?_,by simpa using i2⟩
    rw [List.take_succ_cons,List.take_succ_cons,i1]
  ·rw [blk_stop hf] at h
   exact absurd h (by simp)
theorem fresh_keep (F:FreshB l b)(hl:l.length≤4096)(hlen:l'.length=l.length)(hw:∀a,0≤a→b.pc≤a→a+4≤b.pc+4*(b.is.length:Int)→ldV l' 13 a=ldV l 13 a):FreshB l' b:=by
 have B:=fresh_blkd F hl
 have hp:=F.pc0
 obtain ⟨e1,e2⟩:=blk_keep hlen b.pc 16 0 b.is.length F.le (fun j hj=>by
  rw [Nat.zero_add]
  have:=B.at_ j (by omega)
  exact hw _ (by omega) (by omega) (by omega))
 exact ⟨F.pos,F.pc0,F.pc1,e2,by rw [e1];exact F.eq⟩
theorem has_hit {p:Int×Int}(hb:0<b.is.length)(h0:0≤p.1)(h1:0<p.2)(h2:p.1+p.2≤4096):hasB b p.1 (Wd.lo (p.1+p.2))=hitB b.pc (b.pc+4*(b.is.length:Int)) p:=by
 have e:Wd.lo (p.1+p.2)=p.1+p.2:=Int.emod_eq_of_lt (by omega) (by omega)
 unfold hasB hitB
 rw [e,decide_eq_decide,Int.max_def,Int.min_def]
 constructor
 ·intro h;(repeat' split at h)<;>omega
 ·intro h;(repeat' split)<;>omega
theorem fresh_work {c:Nat}(hn:n≤4096)(w:WOk (w0 s k) n)(F:FreshB s.m b)(hno:∀p∈(wk (w0 s k) c).sto,hasB b p.1 (Wd.lo (p.1+p.2))=false):FreshB (wk (w0 s k) c).m b:=by
 obtain ⟨t,e,w2,hk⟩:=wk_keep hn b.pc (b.pc+4*(b.is.length:Int)) c (w0 s k) w
 have e2:(wk (w0 s k) c).sto=t:=e
 have hm:s.m.length=n:=w.mem
 refine fresh_keep F (by omega) (w2.mem.trans hm.symm) (hk ?_)
 rw [List.any_eq_false]
 intro p hp
 rw [←e2] at hp
 have bd:=w2.bd p hp
 rw [←has_hit F.pos bd.1 bd.2.1 (by omega),hno p hp]
 simp
end Go.Proofs.YtchllaeembmioaaGreatDoor.En
namespace Go.Proofs.YtchllaeembmioaaGreatDoor.Kc
open Mm Ts

variable {pc room : Int} {bs : List Bv} {k : Nat} {b : Bv}
def Sole (bs:List Bv):Prop:=bs.Pairwise fun a b=>¬a.pc=b.pc
theorem place_split:∀{bs:List Bv} {k j:Nat},place pc bs k=((k+j:Nat):Int)→∃b,bs[j]?=some b∧b.pc=pc
 | [],k,j,h=>by unfold place at h;omega
 | b::r,k,j,h=>by
  unfold place at h
  split at h
  ·rename_i e
   have:j=0:=by omega
   subst this
   exact ⟨b,rfl,e⟩
  ·rcases place_bd pc r (k+1) with h2|⟨i,x,h2,hx⟩
   ·omega
   ·have e:j=i+1:=by omega
    subst e
    obtain ⟨y,hy,he⟩:=place_split (bs:=r) (k:=k+1) (j:=i) h2
    exact ⟨y,by simpa using hy,he⟩
theorem rm_none {k:Int}{i:Nat}(h:k<(i:Int)):rmK k bs i=bs:=by
 induction bs generalizing i with
 | nil=>rfl
 | cons b r ih=>
  unfold rmK
  rw [if_neg (by omega),ih (by omega)]
theorem rm_sub:∀(bs:List Bv) (k:Int) (i:Nat),(rmK k bs i).Sublist bs
 | [],k,i=>List.Sublist.refl _
 | b::r,k,i=>by
  unfold rmK
  split
  ·exact (rm_sub r k (i+1)).trans (List.sublist_cons_self b r)
  ·exact (rm_sub r k (i+1)).cons_cons b
theorem rm_gone:∀{bs:List Bv} {i:Nat},Sole bs→∀b∈rmK (place pc bs i) bs i,¬b.pc=pc
 | [],i,_,b,h=>by cases h
 | c::r,i,hs,b,h=>by
  have hs2:Sole r:=(List.pairwise_cons.1 hs).2
  have hc:=(List.pairwise_cons.1 hs).1
  by_cases e:c.pc=pc
  ·have ep:place pc (c::r) i=(i:Int):=by unfold place;rw [if_pos e]
   rw [ep] at h
   unfold rmK at h
   rw [if_pos rfl,rm_none (by omega)] at h
   intro e2
   exact hc b h (e.trans e2.symm)
  ·have ep:place pc (c::r) i=place pc r (i+1):=by rw [place,if_neg e]
   rw [ep] at h
   unfold rmK at h
   have hne:¬(i:Int)=place pc r (i+1):=by
    rcases place_bd pc r (i+1) with h2|⟨j,x,h2,_⟩<;>omega
   rw [if_neg hne] at h
   rcases List.mem_cons.1 h with rfl|h
   ·exact e
   ·exact rm_gone hs2 b h
theorem rm_one {pc:Int}:∀{bs:List Bv} {i:Nat},0≤place pc bs i→(rmK (place pc bs i) bs i).length+1≤bs.length
 | [],i,h=>by unfold place at h;omega
 | c::r,i,h=>by
  by_cases e:c.pc=pc
  ·have ep:place pc (c::r) i=(i:Int):=by unfold place;rw [if_pos e]
   rw [ep]
   unfold rmK
   rw [if_pos rfl,rm_none (by omega)]
   simp
  ·have ep:place pc (c::r) i=place pc r (i+1):=by rw [place,if_neg e]
   rw [ep] at h ⊢
   have:=rm_one (pc:=pc) (bs:=r) (i:=i+1) h
   unfold rmK
   have hne:¬(i:Int)=place pc r (i+1):=by
    rcases place_bd pc r (i+1) with h2|⟨j,x,h2,_⟩<;>omega
   rw [if_neg hne]
   simp
   omega
theorem Sole.sub {a b:List Bv}(h:Sole b)(s:a.Sublist b):Sole a:=h.sublist s
theorem Sole.snoc (h:Sole bs)(hn:∀x∈bs,¬x.pc=b.pc):Sole (bs++[b]):=by
 unfold Sole
 rw [List.pairwise_append]
 exact ⟨h,List.pairwise_singleton _ _,fun x hx y hy=>by rw [List.mem_singleton] at hy;subst hy;exact hn x hx⟩
structure Cok (room:Int) (bs:List Bv):Prop where
 len:(bs.length:Int)≤room
 sole:Sole bs
theorem keep_no {f t:Int}:∀b∈keepL f t bs,hasB b f t=false:=fun b hb=>by
 have:=(List.mem_filter.1 hb).2
 simpa using this
theorem Cok.put (h:Cok room bs)(h0:0≤room)(b:Bv):Cok room (putL room bs b)∧(0<room→place b.pc (putL room bs b) 0=((putL room bs b).length:Int)-1∧(putL room bs b)[(putL room bs b).length-1]?=some b)∧(room=0→putL room bs b=[]):=by
 have hg:=rm_gone (pc:=b.pc) (i:=0) h.sole
 have hsub:=rm_sub bs (place b.pc bs 0) 0
 have hlen:=rm_len (place b.pc bs 0) bs 0
 have hl:=h.len
 have hone:0≤place b.pc bs 0→(rmK (place b.pc bs 0) bs 0).length+1≤bs.length:=rm_one
 have S:=(h.sole.sub hsub).snoc hg
 have fin:∀(l:List Bv),(∀x∈l,¬x.pc=b.pc)→place b.pc (l++[b]) 0=(((l++[b]).length:Nat):Int)-1∧(l++[b])[(l++[b]).length-1]?=some b:=fun l hn=>by
  refine ⟨?_,by simp⟩
  have:=place_at (pc:=b.pc) (bs:=l++[b]) (j:=l.length) (k:=0) (x:=b) (by simp) rfl (fun i y hi hy=>by
   rw [List.getElem?_append_left hi] at hy
   exact hn y (List.mem_of_getElem? hy))
  rw [this]
  simp
 unfold putL
 generalize rmK (place b.pc bs 0) bs 0=r at *
 split
 ·rename_i hgt
  rw [List.length_append,List.length_singleton] at hgt
  cases r with
  | nil=>
   have e0:room=0:=by simp at hgt;omega
   refine ⟨⟨by simp;omega,List.Pairwise.nil⟩,fun h=>absurd h (by omega),fun _=>rfl⟩
  | cons x r'=>
   have e:(x::r'++[b]).drop 1=r'++[b]:=rfl
   rw [e]
   refine ⟨⟨?_,(List.pairwise_cons.1 S).2⟩,fun _=>fin r' (fun y hy=>hg y (by simp [hy])),fun e0=>?_⟩
   ·rw [List.length_append,List.length_singleton]
    simp at hlen hgt
    omega
   ·simp at hlen
    omega
 ·rename_i hle
  refine ⟨⟨by omega,S⟩,fun _=>fin r hg,fun e0=>?_⟩
  rw [List.length_append,List.length_singleton] at hle
  omega
end Go.Proofs.YtchllaeembmioaaGreatDoor.Kc
