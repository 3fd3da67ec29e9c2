/-
  Td, Te, Tj: texts of ours that lie in one file.
-/
import Derived.Test.YtkdghgiajifbdaaDoorQ31
import Derived.Test.YtkdghgiajifbdaaDoorQ32
import Derived.Test.YtkdghgiajifbdaaDoorQ25
import Derived.Deep.RegionWith
set_option linter.unusedVariables false
set_option linter.unusedSimpArgs false
set_option maxHeartbeats 8000000
set_option maxRecDepth 100000
namespace Go.Proofs.YtkdghgiajifbdaaDoor.Ts
open Mm Wd Mi Bk
open Hh hiding Rn

variable {bf bt steps a op rd : Int} {i : Iv}
def mdV (a:Int) (i:Iv):List Mv:=
 if i.op=1 then [⟨2,i.rd,0,0,lo i.im⟩] else if i.op=2 then [⟨2,i.rd,0,0,lo (a+lo i.im)⟩]
 else if i.op=3 then [⟨2,i.rd,0,0,lo (a+4)⟩,⟨3,0,0,0,lo (a+lo i.im)⟩]
 else if i.op=4 then [⟨528,32,i.r1,0,lo i.im⟩,⟨2,i.rd,0,0,lo (a+4)⟩,⟨4,0,32,0,0⟩]
 else if 5≤i.op∧i.op≤10 then [⟨100+i.op,0,i.r1,i.r2,lo (a+lo i.im)⟩]
 else if 11≤i.op∧i.op≤15 then [⟨200+i.op,i.rd,i.r1,0,lo i.im⟩]
 else if 16≤i.op∧i.op≤18 then [⟨300+i.op,0,i.r1,i.r2,lo i.im⟩]
 else if i.op=19∧(i.r1=0∨i.rd=0) then [⟨2,i.rd,0,0,lo i.im⟩]
 else if 19≤i.op∧i.op≤27 then [⟨500+opn i.op,i.rd,i.r1,0,lo i.im⟩]
 else if 28≤i.op∧i.op≤45 then [⟨400+i.op,i.rd,i.r1,i.r2,0⟩]
 else if 46≤i.op∧i.op≤56 then [⟨600+i.op,i.rd,i.r1,i.r2,0⟩]
 else if i.op=58 then [⟨5,0,0,0,0⟩] else if i.op=59 then [⟨6,0,0,0,0⟩] else []
structure Iv.In (i:Iv):Prop where
 o1:1≤i.op
 o2:i.op≤59
 d0:0≤i.rd
 d1:i.rd<32
 a0:0≤i.r1
 a1:i.r1<32
 b0:0≤i.r2
 b1:i.r2<32
theorem body_li {r1 r2 im:Int}(hd0:0≤rd)(hr:rd<32)(ho:op=19)(h:r1=0∨rd=0):BodyI bf bt steps a op rd r1 r2 im [⟨2,rd,0,0,lo im⟩]:=fun q ov ok st z hh hl=>by
 rw [one_run ov]
 have e:mic bf bt steps q ⟨2,rd,0,0,lo im⟩=q.put rd (lo im):=by unfold mic;rw [if_neg (by simp),if_pos rfl]
 have hE:eff (q.h.go a) q.m op (rg q.h r1.toNat) (rg q.h r2.toNat) (lo im)=⟨q.h.go a,q.m,[],[],some (alu 28 (rg q.h r1.toNat) (lo im))⟩:=by
  subst ho
  unfold eff
  rw [if_neg (by omega),if_neg (by omega),if_neg (by omega),if_neg (by omega),if_neg (by omega),if_pos (by omega)]
  rfl
 have e2:q.put rd (lo im)=q.put rd (alu 28 (rg q.h r1.toNat) (lo im)):=by
  rcases h with rfl|rfl
  ·have:alu 28 (rg q.h (0:Int).toNat) (lo im)=lo im:=by
    show alu 28 (rg q.h 0) (lo im)=lo im
    rw [z,alu_add,Int.zero_add]
    exact lo_id (W.lo _)
   rw [this]
  ·rw [put_low q (by omega),put_low q (by omega)]
   rfl
 rw [e,e2]
 exact ⟨fit_put ok ov st hh hr (W.alu (ok.h.reg _) (W.lo _)) hE (by omega),over_no (op:=op) (bf:=bf) (bt:=bt) (a:=a) ov⟩
theorem body_md (h:i.In):BodyI bf bt steps a i.op i.rd i.r1 i.r2 i.im (mdV a i):=by
 obtain ⟨o1,o2,d0,d1,a0,a1,b0,b1⟩:=h
 unfold mdV
 by_cases h0:i.op=1
 ·rw [if_pos h0];exact body_lui d1 h0
 rw [if_neg h0]
 by_cases h1:i.op=2
 ·rw [if_pos h1];exact body_auipc d1 h1
 rw [if_neg h1]
 by_cases h2:i.op=3
 ·rw [if_pos h2];exact body_jal d1 h2
 rw [if_neg h2]
 by_cases h3:i.op=4
 ·rw [if_pos h3];exact body_jalr2 32 (by omega) (by omega) d1 a1 h3
 rw [if_neg h3]
 by_cases h4:5≤i.op∧i.op≤10
 ·rw [if_pos h4];exact body_if a1 b1 h4
 rw [if_neg h4]
 by_cases h5:11≤i.op∧i.op≤15
 ·rw [if_pos h5];exact body_ld d1 a1 h5
 rw [if_neg h5]
 by_cases h6:16≤i.op∧i.op≤18
 ·rw [if_pos h6];exact body_st a1 b1 h6
 rw [if_neg h6]
 by_cases h7:i.op=19∧(i.r1=0∨i.rd=0)
 ·rw [if_pos h7];exact body_li d0 d1 h7.1 h7.2
 rw [if_neg h7]
 by_cases h8:19≤i.op∧i.op≤27
 ·rw [if_pos h8];exact body_aln d1 a1 h8
 rw [if_neg h8]
 by_cases h9:28≤i.op∧i.op≤45
 ·rw [if_pos h9];exact body_alu d1 a1 b1 h9
 rw [if_neg h9]
 by_cases h10:46≤i.op∧i.op≤56
 ·rw [if_pos h10];exact body_atom d1 a1 b1 h10
 rw [if_neg h10]
 by_cases h11:i.op=58
 ·rw [if_pos h11];exact body_call h11
 rw [if_neg h11]
 by_cases h12:i.op=59
 ·rw [if_pos h12];exact body_break h12
 rw [if_neg h12]
 exact body_fence (by omega)
theorem ok_of {i:Mv}{nm:Int}(hn:named i.op=nm)(h0:0≤nm)(hN:8≤nm∨i.n=0)(hd:(nm%2=1∨i.d=0)∧0≤i.d∧i.d<36)(ha:(nm/2%2=1∨i.a=0)∧0≤i.a∧i.a<36)(hb:(nm/4%2=1∨i.b=0)∧0≤i.b∧i.b<36):micOk i=true:=by
 unfold micOk regOk
 rw [hn]
 simp only [Bool.and_eq_true,decide_eq_true_eq]
 exact ⟨h0,hN,hd,ha,hb⟩
theorem nm_if (h:5≤op∧op≤10):named (100+op)=14:=by unfold named;rw [if_neg (by omega),if_neg (by omega),if_neg (by omega),if_neg (by omega),if_pos (by omega)]
theorem nm_ld (h:11≤op∧op≤15):named (200+op)=11:=by unfold named;rw [if_neg (by omega),if_neg (by omega),if_neg (by omega),if_neg (by omega),if_neg (by omega),if_pos (by omega)]
theorem nm_st (h:16≤op∧op≤18):named (300+op)=14:=by unfold named;rw [if_neg (by omega),if_neg (by omega),if_neg (by omega),if_neg (by omega),if_neg (by omega),if_neg (by omega),if_pos (by omega)]
theorem nm_alu (h:28≤op∧op≤45):named (400+op)=7:=by unfold named;rw [if_neg (by omega),if_neg (by omega),if_neg (by omega),if_neg (by omega),if_neg (by omega),if_neg (by omega),if_neg (by omega),if_pos (by omega)]
theorem nm_aln (h:28≤op∧op≤45):named (500+op)=11:=by unfold named;rw [if_neg (by omega),if_neg (by omega),if_neg (by omega),if_neg (by omega),if_neg (by omega),if_neg (by omega),if_neg (by omega),if_neg (by omega),if_pos (by omega)]
theorem nm_atm (h:46≤op∧op≤56):named (600+op)=7:=by unfold named;rw [if_neg (by omega),if_neg (by omega),if_neg (by omega),if_neg (by omega),if_neg (by omega),if_neg (by omega),if_neg (by omega),if_neg (by omega),if_neg (by omega),if_pos (by omega)]
theorem opn_bd (op:Int):28≤opn op∧opn op≤45:=by unfold opn;(repeat' split)<;>omega
def Mv.Fine (i:Mv):Prop:=micOk i=true∧W i.n∧(0≤i.op∧i.op≤700)
theorem one_mem {P:Mv→Prop}{y:Mv}(h:P y):∀x∈[y],P x:=fun x hx=>by rw [List.mem_singleton] at hx;subst hx;exact h
theorem z1:(0:Int)≤0:=by decide
theorem z2:(0:Int)<36:=by decide
theorem z3 (n:Int)(h:(0:Int)≤n):0≤n:=h
theorem z4 (n:Int)(h:n≤700):n≤700:=h
theorem z5:(32:Int)<36:=by decide
theorem set_fine {n:Int}(d0:0≤rd)(d1:rd<32)(hn:W n):Mv.Fine ⟨2,rd,0,0,n⟩:=⟨ok_of (nm:=9) (by show named 2=9;decide) (by omega) (by left;omega) ⟨.inl (by decide),d0,by show rd<36;omega⟩ ⟨.inr rfl,z1,z2⟩ ⟨.inr rfl,z1,z2⟩,hn,z3 2 (by decide),z4 2 (by decide)⟩
theorem md_fine (h:i.In):(∀x∈mdV a i,Mv.Fine x)∧(mdV a i).length≤3:=by
 obtain ⟨o1,o2,d0,d1,a0,a1,b0,b1⟩:=h
 have w0:W 0:=by unfold W;omega
 have hop:=opn_bd i.op
 have set_:∀n,W n→Mv.Fine ⟨2,i.rd,0,0,n⟩:=fun n hn=>set_fine d0 d1 hn
 unfold mdV
 by_cases h0:i.op=1
 ·rw [if_pos h0]
  exact ⟨one_mem (set_ _ (W.lo _)),by simp⟩
 rw [if_neg h0]
 by_cases h1:i.op=2
 ·rw [if_pos h1]
  exact ⟨one_mem (set_ _ (W.lo _)),by simp⟩
 rw [if_neg h1]
 by_cases h2:i.op=3
 ·rw [if_pos h2]
  refine ⟨fun x hx=>?_,by simp⟩
  rcases List.mem_cons.1 hx with rfl|hx
  ·exact set_ _ (W.lo _)
  ·refine one_mem (P:=Mv.Fine) ?_ x hx
   exact ⟨ok_of (nm:=8) (by show named 3=8;decide) (by omega) (by left;omega) ⟨.inr rfl,z1,z2⟩ ⟨.inr rfl,z1,z2⟩ ⟨.inr rfl,z1,z2⟩,W.lo _,z3 3 (by decide),z4 3 (by decide)⟩
 rw [if_neg h2]
 by_cases h3:i.op=4
 ·rw [if_pos h3]
  refine ⟨fun x hx=>?_,by simp⟩
  rcases List.mem_cons.1 hx with rfl|hx
  ·exact ⟨ok_of (nm:=11) (by show named 528=11;decide) (by omega) (by left;omega) ⟨.inl (by decide),z3 32 (by decide),z5⟩ ⟨.inl (by decide),a0,by show i.r1<36;omega⟩ ⟨.inr rfl,z1,z2⟩,W.lo _,z3 528 (by decide),z4 528 (by decide)⟩
  rcases List.mem_cons.1 hx with rfl|hx
  ·exact set_ _ (W.lo _)
  ·refine one_mem (P:=Mv.Fine) ?_ x hx
   exact ⟨ok_of (nm:=10) (by show named 4=10;decide) (by omega) (by left;omega) ⟨.inr rfl,z1,z2⟩ ⟨.inl (by decide),z3 32 (by decide),z5⟩ ⟨.inr rfl,z1,z2⟩,w0,z3 4 (by decide),z4 4 (by decide)⟩
 rw [if_neg h3]
 by_cases h4:5≤i.op∧i.op≤10
 ·rw [if_pos h4]
  exact ⟨one_mem ⟨ok_of (nm:=14) (nm_if h4) (by omega) (by left;omega) ⟨.inr rfl,z1,z2⟩ ⟨.inl (by decide),a0,by show i.r1<36;omega⟩ ⟨.inl (by decide),b0,by show i.r2<36;omega⟩,W.lo _,by show (0:Int)≤100+i.op;omega,by show 100+i.op≤700;omega⟩,by simp⟩
 rw [if_neg h4]
 by_cases h5:11≤i.op∧i.op≤15
 ·rw [if_pos h5]
  exact ⟨one_mem ⟨ok_of (nm:=11) (nm_ld h5) (by omega) (by left;omega) ⟨.inl (by decide),d0,by show i.rd<36;omega⟩ ⟨.inl (by decide),a0,by show i.r1<36;omega⟩ ⟨.inr rfl,z1,z2⟩,W.lo _,by show (0:Int)≤200+i.op;omega,by show 200+i.op≤700;omega⟩,by simp⟩
 rw [if_neg h5]
 by_cases h6:16≤i.op∧i.op≤18
 ·rw [if_pos h6]
  exact ⟨one_mem ⟨ok_of (nm:=14) (nm_st h6) (by omega) (by left;omega) ⟨.inr rfl,z1,z2⟩ ⟨.inl (by decide),a0,by show i.r1<36;omega⟩ ⟨.inl (by decide),b0,by show i.r2<36;omega⟩,W.lo _,by show (0:Int)≤300+i.op;omega,by show 300+i.op≤700;omega⟩,by simp⟩
 rw [if_neg h6]
 by_cases h7:i.op=19∧(i.r1=0∨i.rd=0)
 ·rw [if_pos h7]
  exact ⟨one_mem (set_ _ (W.lo _)),by simp⟩
 rw [if_neg h7]
 by_cases h8:19≤i.op∧i.op≤27
 ·rw [if_pos h8]
  exact ⟨one_mem ⟨ok_of (nm:=11) (nm_aln hop) (by omega) (by left;omega) ⟨.inl (by decide),d0,by show i.rd<36;omega⟩ ⟨.inl (by decide),a0,by show i.r1<36;omega⟩ ⟨.inr rfl,z1,z2⟩,W.lo _,by show (0:Int)≤500+opn i.op;omega,by show 500+opn i.op≤700;omega⟩,by simp⟩
 rw [if_neg h8]
 by_cases h9:28≤i.op∧i.op≤45
 ·rw [if_pos h9]
  exact ⟨one_mem ⟨ok_of (nm:=7) (nm_alu h9) (by omega) (by right;rfl) ⟨.inl (by decide),d0,by show i.rd<36;omega⟩ ⟨.inl (by decide),a0,by show i.r1<36;omega⟩ ⟨.inl (by decide),b0,by show i.r2<36;omega⟩,w0,by show (0:Int)≤400+i.op;omega,by show 400+i.op≤700;omega⟩,by simp⟩
 rw [if_neg h9]
 by_cases h10:46≤i.op∧i.op≤56
 ·rw [if_pos h10]
  exact ⟨one_mem ⟨ok_of (nm:=7) (nm_atm h10) (by omega) (by right;rfl) ⟨.inl (by decide),d0,by show i.rd<36;omega⟩ ⟨.inl (by decide),a0,by show i.r1<36;omega⟩ ⟨.inl (by decide),b0,by show i.r2<36;omega⟩,w0,by show (0:Int)≤600+i.op;omega,by show 600+i.op≤700;omega⟩,by simp⟩
 rw [if_neg h10]
 by_cases h11:i.op=58
 ·rw [if_pos h11]
  exact ⟨one_mem ⟨by decide,w0,by decide,by decide⟩,by simp⟩
 rw [if_neg h11]
 by_cases h12:i.op=59
 ·rw [if_pos h12]
  exact ⟨one_mem ⟨by decide,w0,by decide,by decide⟩,by simp⟩
 rw [if_neg h12]
 exact ⟨fun x hx=>(by cases hx),by simp⟩
def codeV (pc:Int):List Iv→Nat→List Mv
 | [],_=>[]
 | i::is,k=>⟨1,0,0,0,at4 pc k⟩::(mdV (at4 pc k) i++codeV pc is (k+1))
theorem codeV_snoc (pc:Int)(i:Iv):∀(is:List Iv) (k:Nat),codeV pc (is++[i]) k=codeV pc is k++(⟨1,0,0,0,at4 pc (k+is.length)⟩::mdV (at4 pc (k+is.length)) i)
 | [],k=>by simp [codeV]
 | j::is,k=>by
  show _::(_++codeV pc (is++[i]) (k+1))=_
  rw [codeV_snoc pc i is (k+1)]
  simp [codeV,show k+1+is.length=k+(is.length+1) by omega]
theorem at_fine (a:Int)(h:W a):Mv.Fine ⟨1,0,0,0,a⟩:=⟨ok_of (nm:=8) (by show named 1=8;decide) (by omega) (by left;omega) ⟨.inr rfl,z1,z2⟩ ⟨.inr rfl,z1,z2⟩ ⟨.inr rfl,z1,z2⟩,h,z3 1 (by decide),z4 1 (by decide)⟩
theorem codeV_fine (pc:Int):∀(is:List Iv) (k:Nat),(∀i∈is,i.In)→(∀x∈codeV pc is k,Mv.Fine x)∧(codeV pc is k).length≤4*is.length
 | [],k,_=>⟨fun x hx=>(by cases hx),by simp [codeV]⟩
 | i::is,k,h=>by
  obtain ⟨m1,m2⟩:=md_fine (a:=at4 pc k) (h i (by simp))
  obtain ⟨c1,c2⟩:=codeV_fine pc is (k+1) (fun j hj=>h j (by simp [hj]))
  refine ⟨fun x hx=>?_,?_⟩
  ·simp only [codeV,List.mem_cons,List.mem_append] at hx
   rcases hx with rfl|hx|hx
   ·exact at_fine _ (at4_bd pc k)
   ·exact m1 x hx
   ·exact c1 x hx
  ·simp only [codeV,List.length_cons,List.length_append]
   omega
theorem codeV_may (pc:Int){is:List Iv}(h:∀i∈is,i.In)(hl:is.length≤16):mayC (codeV pc is 0)=true:=by
 obtain ⟨c1,c2⟩:=codeV_fine pc is 0 h
 unfold mayC
 simp only [Bool.and_eq_true,decide_eq_true_eq,List.all_eq_true]
 exact ⟨by omega,fun x hx=>(c1 x hx).1⟩
def ivX (x:Int):Iv:=⟨Dc.dop x,Dc.rdF (Dc.frm (Dc.dop x)) x,Dc.rs1F (Dc.frm (Dc.dop x)) x,Dc.rs2F (Dc.frm (Dc.dop x)) x,Dc.immF (Dc.frm (Dc.dop x)) x⟩
theorem ivX_in {x:Int}(h0:0≤x)(h1:x<4294967296)(hx:¬Dc.dop x=0):(ivX x).In:=by
 have:=Re.dop_bd h0 h1
 have a:=rd_bd (Dc.frm (Dc.dop x)) x
 have b:=rs1_bd (Dc.frm (Dc.dop x)) x
 have c:=rs2_bd (Dc.frm (Dc.dop x)) x
 exact ⟨by show 1≤Dc.dop x;omega,by show Dc.dop x≤59;omega,a.1,a.2,b.1,b.2,c.1,c.2⟩
theorem codeV_K (pc:Int)(xs:List Int):∀(n k:Nat),k+n=xs.length→codeV pc ((xs.drop k).map ivX) k=codeK pc (fun j=>mdV (at4 pc j) (ivX (xs.getD j 0))) n k
 | 0,k,h=>by rw [List.drop_eq_nil_of_le (by omega)];rfl
 | n+1,k,h=>by
  have hk:k<xs.length:=by omega
  rw [List.drop_eq_getElem_cons hk,List.map_cons]
  show _::(_++codeV pc _ (k+1))=_::(_++_)
  rw [codeV_K pc xs n (k+1) (by omega)]
  simp [List.getD,List.getElem?_eq_getElem hk]
end Go.Proofs.YtkdghgiajifbdaaDoor.Ts
namespace Go.Proofs.YtkdghgiajifbdaaDoor.Ts
open Go.ChangeShapes Go.WideShapes Go.ChangeAt Go.RowKit Mm Hc Mi Bk
open Hh hiding Rn

variable {w : World} {n a b : Int}
theorem Sr.at_ {g:Nat}(hg:g=w.heap.size)(cs:Array Value)(t n c:Nat)(h:cs.size=n*5):Sr (w.alloc (.cells cs t)) (.slice (some ⟨g,0,none⟩) n c) n 5 cs.toList:=by
 subst hg
 exact Sr.new w cs t n c h
theorem Sr.drew {vx:Value}{m sz:Nat}{news:List Value}(h:Sr w vx m sz news):Sr w.drew vx m sz news:=h.gr ((Gr.refl _).drewN 1)
theorem iMic:(Tryd.prog.info? 81).map (·.size)=some 5:=by kernel_rfl
theorem qwithin_any (n a b : Int) (w : World) : Calls Tryd.prog 64 #[.int .i64 n, .int .i64 a, .int .i64 b] w fun e w' => e = .returned (.bool (decide (a ≤ n ∧ n ≤ b))) ∧ w' = w := by
  go_enter Tryd.func64, Tryd.ntmps64
  go_wp2
  all_goals
    go_ret
    refine ⟨Dw.ret_bool ?_, rfl⟩
    first
      | (rename_i h; have h2 : ¬ a ≤ n := by omega
         simp [h2]; done)
      | (rename_i h; simp [h]; done)
theorem qwithin_yes (h:a≤n∧n≤b)(w:World):Calls Tryd.prog 64 #[.int .i64 n,.int .i64 a,.int .i64 b] w fun e w'=>e=.returned (.bool true)∧w'=w:=by
 have:=qwithin_any n a b w
 rwa [decide_eq_true h] at this
theorem qwithin_no (h:¬(a≤n∧n≤b))(w:World):Calls Tryd.prog 64 #[.int .i64 n,.int .i64 a,.int .i64 b] w fun e w'=>e=.returned (.bool false)∧w'=w:=by
 have:=qwithin_any n a b w
 rwa [decide_eq_false h] at this
theorem qrow_any (v:Value)(w:World):Calls Tryd.prog 61 #[v] w fun e w'=>e=.returned v∧w'=w:=by
 go_enter Tryd.func61,Tryd.ntmps61
 go_wp2
 go_ret
 exact ⟨rfl,rfl⟩
theorem qset_at (r x:Int)(w:World):Calls Tryd.prog 62 #[.int .i64 r,.int .u32 x] w fun e w'=>e=.returned (.agg #[.int .i64 2,.int .i64 r,.int .i64 0,.int .i64 0,.int .u32 x])∧w'=w.alloc (.cells #[.int .i64 2,.int .i64 r,.int .i64 0,.int .i64 0,.int .u32 x] 81):=by
 go_enter Tryd.func62,Tryd.ntmps62
 go_wp2
 exact bodyPost_ret (v:=.agg #[.int .i64 2,.int .i64 r,.int .i64 0,.int .i64 0,.int .u32 x]) (results_cell_row Tryd.results62 _ _ _ _ _ (0,0) _ rfl (heap_alloc_new w _) Tryd.underlying81 rfl iMic) rfl ⟨rfl,rfl⟩
theorem qset_any (r x:Int)(w:World):Calls Tryd.prog 62 #[.int .i64 r,.int .u32 x] w fun e w'=>e=.returned (.agg #[.int .i64 2,.int .i64 r,.int .i64 0,.int .i64 0,.int .u32 x])∧Gr w w':=
 (qset_at r x w).mono fun e w' ⟨h1,h2⟩=>⟨h1,by rw [h2];exact (Gr.refl _).alloc _⟩
end Go.Proofs.YtkdghgiajifbdaaDoor.Ts
namespace Go.Proofs.YtkdghgiajifbdaaDoor.Ts
open Go.ChangeShapes Go.WideShapes Go.ChangeAt Go.RowKit Mm Hc Mi Bk
open Hh hiding Rn
theorem jump_any (op rd r1 r2 im a:Int)(w:World):Calls Tryd.prog 63 #[.agg #[.int .i64 op,.int .i64 rd,.int .i64 r1,.int .i64 r2,.int .i32 im],.int .u32 a] w fun e w'=>∃v,e=.returned v∧Sr w' v 3 5 [.int .i64 528,.int .i64 32,.int .i64 r1,.int .i64 0,.int .u32 (Wd.lo im),.int .i64 2,.int .i64 rd,.int .i64 0,.int .i64 0,.int .u32 (Wd.lo (a+4)),.int .i64 4,.int .i64 0,.int .i64 32,.int .i64 0,.int .u32 0]∧Gr w w':=by
 go_enter Tryd.func63,Tryd.ntmps63
 go_wp2_with fail
 go_region_with (first
  | (go_at_call 62;refine (qset_at _ _ _).mono ?_;rintro e w1 ⟨rfl,rfl⟩)
  | (go_at_call 61;refine (qrow_any _ _).mono ?_;rintro e w1 ⟨rfl,rfl⟩))
 all_goals
  go_wp2_with fail
  go_ret
  refine ⟨_,rfl,?_,?_⟩
  ·repeat (refine Sr.drew ?_)
   exact Sr.at_ (by simp) #[.int .i64 528,.int .i64 32,.int .i64 r1,.int .i64 0,.int .u32 (IntKind.u32.wrap im),.int .i64 2,.int .i64 rd,.int .i64 0,.int .i64 0,.int .u32 (IntKind.u32.wrap (a+4)),.int .i64 4,.int .i64 0,.int .i64 32,.int .i64 0,.int .u32 0] 81 3 3 rfl
  ·repeat (first|exact Gr.refl _|refine Gr.drewN ?_ _|refine Gr.drew ?_|refine Gr.alloc ?_ _)
end Go.Proofs.YtkdghgiajifbdaaDoor.Ts
