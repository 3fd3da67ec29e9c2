/-
  Dec3, Tl, Bm1: texts of ours that lie in one file.
-/
import Derived.Test.YtchllaeembmioaaGreatDoorK23
import Derived.Test.YtchllaeembmioaaGreatDoorK16
import Derived.Test.YtchllaeembmioaaGreatDoorK03
set_option linter.unusedVariables false
set_option linter.unusedSimpArgs false
set_option maxHeartbeats 8000000
set_option maxRecDepth 100000
namespace Go.Proofs.YtchllaeembmioaaGreatDoor.Dw
open Re

variable {op rd rs1 rs2 n p q : Int}
theorem or_zero (n:Int)(h0:0≤n)(h1:n<4294967296):bits .or .u32 n 0=n:=(or_add n 0 0 h0 (by omega) (by omega) (by omega) (by omega)).trans (by omega)
theorem Wv_regs {imm l m u:Int}(hT:Dc.tbits op=l+m*4096+u*33554432)(l0:0≤l)(l1:l<128)(m0:0≤m)(m1:m<8)(u0:0≤u)(u1:u<128)
  (a1:0≤rd)(a2:rd≤31)(b1:0≤rs1)(b2:rs1≤31)(c1:0≤rs2)(c2:rs2≤31):
  Wv op rd rs1 rs2 imm=bits .or .u32 (l+rd*128+m*4096+rs1*32768+rs2*1048576+u*33554432) (wI (Dc.frm op) (imm%4294967296)):=by
 unfold Wv;rw [regs_sum hT l0 l1 m0 m1 u0 u1 a1 a2 b1 b2 c1 c2]
theorem tb_parts (h1:1≤op)(h2:op≤57):∃l m u,Dc.tbits op=l+m*4096+u*33554432∧0≤l∧l<128∧0≤m∧m<8∧0≤u∧u<128∧(Dc.frm op=8→u%4=0)∧
  (Dc.frm op=1∨Dc.frm op=2∨Dc.frm op=3∨Dc.frm op=5∨Dc.frm op=6→u=0)∧(Dc.frm op=1∨Dc.frm op=2→m=0):=by
 obtain ⟨t1,t2,t3,t4,t5,t6⟩:=tb h1 h2
 exact ⟨_,_,_,t1,by omega,by omega,by omega,by omega,by omega,by omega,t4,t5,t6⟩
theorem same_1 (o1:1≤op)(o2:op≤57)(hf:Dc.frm op=1)(a1:0≤rd)(a2:rd≤31)(n0 : -2147483648≤n)(n1:n<2147483648)(hn:n%4096=0):Same op rd 0 0 n (Wv op rd 0 0 n):=by
 obtain ⟨l,m,u,hT,l0,l1,m0,m1,u0,u1,t8,tu,tm⟩:=tb_parts o1 o2
 have hu:=tu (Or.inl hf)
 have hm:=tm (Or.inl hf)
 have hb:=Wv_bd op rd 0 0 n
 rw [Wv_regs hT l0 l1 m0 m1 u0 u1 a1 a2 (by omega) (by omega) (by omega) (by omega),hf] at hb ⊢
 have hD:wI 1 (n%4294967296)=n%4294967296/4096%1048576*2 ^ 12:=rfl
 have hV:bits .or .u32 (l+rd*128+m*4096+0*32768+0*1048576+u*33554432) (wI 1 (n%4294967296))=l+rd*128+n%4294967296/4096%1048576*4096:=by
  rw [hD,or_ins _ _ 12 20 (by omega) (by omega) (by omega) (by omega) (by omega) (by omega) (by omega)];omega
 rw [hV] at hb ⊢
 generalize hv:l+rd*128+n%4294967296/4096%1048576*4096=v at *
 refine same_mk hb.1 hb.2 o1 (by omega) hf (show v%128=_ by omega) (fun h=>absurd hf (by rw [h];decide)) (show v/128%32=rd by omega) rfl rfl ?_
 show Wd.sg v-v%4096=n
 unfold Wd.sg;split<;>omega
theorem same_2 (o1:1≤op)(o2:op≤57)(hf:Dc.frm op=2)(a1:0≤rd)(a2:rd≤31)(n0 : -1048576≤n)(n1:n≤1048574)(hn:n%2=0):Same op rd 0 0 n (Wv op rd 0 0 n):=by
 obtain ⟨l,m,u,hT,l0,l1,m0,m1,u0,u1,t8,tu,tm⟩:=tb_parts o1 o2
 have hu:=tu (Or.inr (Or.inl hf))
 have hm:=tm (Or.inr hf)
 have hb:=Wv_bd op rd 0 0 n
 rw [Wv_regs hT l0 l1 m0 m1 u0 u1 a1 a2 (by omega) (by omega) (by omega) (by omega),hf] at hb ⊢
 have hD:wI 2 (n%4294967296)=n%4294967296/1048576%2*2147483648+n%4294967296/4096%256*4096+n%4294967296/2048%2*1048576+n%4294967296/2%1024*2097152:=rfl
 have hN:Dc.sgn 1048576 (n%4294967296/1048576%2*1048576+n%4294967296/4096%256*4096+n%4294967296/2048%2*2048+n%4294967296/2%1024*2)=n:=by
  unfold Dc.sgn;split<;>omega
 have x0:0≤n%4294967296/1048576%2∧n%4294967296/1048576%2<2:=by omega
 have y0:0≤n%4294967296/4096%256∧n%4294967296/4096%256<256:=by omega
 have z0:0≤n%4294967296/2048%2∧n%4294967296/2048%2<2:=by omega
 have s0:0≤n%4294967296/2%1024∧n%4294967296/2%1024<1024:=by omega
 rw [hD] at hb ⊢
 clear hD
 generalize n%4294967296/1048576%2=x at *
 generalize n%4294967296/4096%256=y at *
 generalize n%4294967296/2048%2=z at *
 generalize n%4294967296/2%1024=s at *
 have hV:bits .or .u32 (l+rd*128+m*4096+0*32768+0*1048576+u*33554432) (x*2147483648+y*4096+z*1048576+s*2097152)=l+rd*128+y*4096+z*1048576+s*2097152+x*2147483648:=by
  rw [show x*2147483648+y*4096+z*1048576+s*2097152=(x*524288+y+z*256+s*512)*2 ^ 12 by omega,or_ins _ _ 12 20 (by omega) (by omega) (by omega) (by omega) (by omega) (by omega) (by omega)];omega
 rw [hV] at hb ⊢
 generalize hv:l+rd*128+y*4096+z*1048576+s*2097152+x*2147483648=v at *
 have q1:v/2147483648=x:=by omega
 have q2:v/2097152=s+x*1024:=by omega
 have q3:v/1048576=z+s*2+x*2048:=by omega
 have q4:v/4096=y+z*256+s*512+x*524288:=by omega
 have q5:v/128=rd+(y+z*256+s*512+x*524288)*32:=by omega
 refine same_mk hb.1 hb.2 o1 (by omega) hf (show v%128=_ by omega) (fun h=>absurd hf (by rw [h];decide)) (show v/128%32=rd by rw [q5];omega) rfl rfl ?_
 show Dc.sgn 1048576 (v/2147483648*1048576+v/4096%256*4096+v/1048576%2*2048+v/2097152%1024*2)=n
 rw [q1,q2,q3,q4,show (y+z*256+s*512+x*524288)%256=y by omega,show (z+s*2+x*2048)%2=z by omega,show (s+x*1024)%1024=s by omega]
 exact hN
theorem same_3 (o1:1≤op)(o2:op≤57)(hf:Dc.frm op=3)(a1:0≤rd)(a2:rd≤31)(b1:0≤rs1)(b2:rs1≤31)(n0 : -2048≤n)(n1:n≤2047):Same op rd rs1 0 n (Wv op rd rs1 0 n):=by
 obtain ⟨l,m,u,hT,l0,l1,m0,m1,u0,u1,t8,tu,tm⟩:=tb_parts o1 o2
 have hu:=tu (Or.inr (Or.inr (Or.inl hf)))
 have hb:=Wv_bd op rd rs1 0 n
 rw [Wv_regs hT l0 l1 m0 m1 u0 u1 a1 a2 b1 b2 (by omega) (by omega),hf] at hb ⊢
 have hD:wI 3 (n%4294967296)=n%4294967296%4096*2 ^ 20:=rfl
 have hV:bits .or .u32 (l+rd*128+m*4096+rs1*32768+0*1048576+u*33554432) (wI 3 (n%4294967296))=l+rd*128+m*4096+rs1*32768+n%4294967296%4096*1048576:=by
  rw [hD,or_ins _ _ 20 12 (by omega) (by omega) (by omega) (by omega) (by omega) (by omega) (by omega)];omega
 rw [hV] at hb ⊢
 have hN:Dc.sgn 2048 (n%4294967296%4096)=n:=by unfold Dc.sgn;split<;>omega
 have e0:0≤n%4294967296%4096∧n%4294967296%4096<4096:=by omega
 generalize n%4294967296%4096=e at *
 generalize hv:l+rd*128+m*4096+rs1*32768+e*1048576=v at *
 obtain ⟨v1,v2,v3,v4,v5,v6,v7,_,_,_⟩:=canon (v:=v) (l:=l) (a:=rd) (m:=m) (b:=rs1) (c:=e%32) (u:=e/32) (by omega) l0 l1 a1 (by omega) m0 m1 b1 (by omega) (by omega) (by omega)
 refine same_mk hb.1 hb.2 o1 (by omega) hf (show v%128+v/4096%8*4096=_ by rw [v1,v3];omega) (fun h=>absurd hf (by rw [h];decide)) v2 v4 rfl ?_
 show Dc.sgn 2048 (v/1048576)=n
 rw [v7,show e%32+e/32*32=e by omega]
 exact hN
theorem same_4 (o1:1≤op)(o2:op≤57)(hf:Dc.frm op=4)(a1:0≤rd)(a2:rd≤31)(b1:0≤rs1)(b2:rs1≤31)(n0:0≤n)(n1:n≤31):Same op rd rs1 0 n (Wv op rd rs1 0 n):=by
 obtain ⟨l,m,u,hT,l0,l1,m0,m1,u0,u1,t8,tu,tm⟩:=tb_parts o1 o2
 have hb:=Wv_bd op rd rs1 0 n
 rw [Wv_regs hT l0 l1 m0 m1 u0 u1 a1 a2 b1 b2 (by omega) (by omega),hf] at hb ⊢
 have hD:wI 4 (n%4294967296)=n*2 ^ 20:=by show n%4294967296%32*1048576=_;omega
 have hz:(l+rd*128+m*4096+rs1*32768+0*1048576+u*33554432)/2 ^ 20=u*32:=by omega
 have hV:bits .or .u32 (l+rd*128+m*4096+rs1*32768+0*1048576+u*33554432) (wI 4 (n%4294967296))=l+rd*128+m*4096+rs1*32768+n*1048576+u*33554432:=by
  rw [hD,or_ins _ _ 20 5 (by omega) (by omega) (by rw [hz];omega) (by omega) (by omega) (by omega) (by omega)];omega
 rw [hV] at hb ⊢
 generalize hv:l+rd*128+m*4096+rs1*32768+n*1048576+u*33554432=v at *
 obtain ⟨v1,v2,v3,v4,v5,v6,v7,_,_,_⟩:=canon hv.symm l0 l1 a1 (by omega) m0 m1 b1 (by omega) n0 (by omega)
 exact same_mk hb.1 hb.2 o1 (by omega) hf (show v%128+v/4096%8*4096+v/33554432*33554432=_ by rw [v1,v3,v6];omega) (fun h=>absurd hf (by rw [h];decide)) v2 v4 rfl v5
theorem two_ins {S:Int}(s0:0≤S)(s1:S<33554432)(sz:S/128%32=0)(p0:0≤p)(p1:p<32)(q0:0≤q)(q1:q<128):bits .or .u32 S (p*128+q*33554432)=S+p*128+q*33554432:=by
 rw [bits_or_u32 S _ s0 (by omega) (by omega) (by omega),show p*128+q*33554432=p*2 ^ 7+q*2 ^ 25 by omega,←ins_bor (p*2 ^ 7) q 25 7 (by omega) q0 (by omega) (by omega),←bor_assoc,
  ins_bor S p 7 5 s0 p0 sz (by omega),ins_bor _ q 25 7 (by omega) q0 (by omega) (by omega)]
 omega
theorem same_56 {f:Int}(o1:1≤op)(o2:op≤57)(hf:Dc.frm op=f)(f56:f=5∨f=6)(b1:0≤rs1)(b2:rs1≤31)(c1:0≤rs2)(c2:rs2≤31)
  (p0:0≤p)(p1:p<32)(q0:0≤q)(q1:q<128)(hD:wI f (n%4294967296)=p*128+q*33554432)
  (hI:∀v:Int,v/33554432=q→v/128%32=p→Dc.immF f v=n):Same op 0 rs1 rs2 n (Wv op 0 rs1 rs2 n):=by
 obtain ⟨l,m,u,hT,l0,l1,m0,m1,u0,u1,t8,tu,tm⟩:=tb_parts o1 o2
 have hu:=tu (by omega)
 have hb:=Wv_bd op 0 rs1 rs2 n
 rw [Wv_regs hT l0 l1 m0 m1 u0 u1 (by omega) (by omega) b1 b2 c1 c2,hf] at hb ⊢
 have hz:(l+0*128+m*4096+rs1*32768+rs2*1048576+u*33554432)/128=(m+rs1*8+rs2*256)*32:=by omega
 rw [hD,two_ins (by omega) (by omega) (by rw [hz];omega) p0 p1 q0 q1] at hb ⊢
 generalize hv:l+0*128+m*4096+rs1*32768+rs2*1048576+u*33554432+p*128+q*33554432=v at *
 obtain ⟨v1,v2,v3,v4,v5,v6,v7,_,_,_⟩:=canon (v:=v) (l:=l) (a:=p) (m:=m) (b:=rs1) (c:=rs2) (u:=q) (by omega) l0 l1 p0 p1 m0 m1 b1 (by omega) c1 (by omega)
 rcases f56 with rfl|rfl
 ·exact same_mk hb.1 hb.2 o1 (by omega) hf (show v%128+v/4096%8*4096=_ by rw [v1,v3];omega) (fun h=>absurd hf (by rw [h];decide)) rfl v4 v5 (hI v v6 v2)
 ·exact same_mk hb.1 hb.2 o1 (by omega) hf (show v%128+v/4096%8*4096=_ by rw [v1,v3];omega) (fun h=>absurd hf (by rw [h];decide)) rfl v4 v5 (hI v v6 v2)
theorem same_5 (o1:1≤op)(o2:op≤57)(hf:Dc.frm op=5)(b1:0≤rs1)(b2:rs1≤31)(c1:0≤rs2)(c2:rs2≤31)(n0 : -4096≤n)(n1:n≤4094)(hn:n%2=0):Same op 0 rs1 rs2 n (Wv op 0 rs1 rs2 n):=by
 have hN:Dc.sgn 4096 (n%4294967296/4096%2*4096+n%4294967296/2048%2*2048+n%4294967296/32%64*32+n%4294967296/2%16*2)=n:=by
  unfold Dc.sgn;split<;>omega
 have hD:wI 5 (n%4294967296)=n%4294967296/4096%2*2147483648+n%4294967296/2048%2*128+n%4294967296/32%64*33554432+n%4294967296/2%16*256:=rfl
 have x0:0≤n%4294967296/4096%2∧n%4294967296/4096%2<2:=by omega
 have y0:0≤n%4294967296/2048%2∧n%4294967296/2048%2<2:=by omega
 have z0:0≤n%4294967296/32%64∧n%4294967296/32%64<64:=by omega
 have s0:0≤n%4294967296/2%16∧n%4294967296/2%16<16:=by omega
 refine same_56 (p:=n%4294967296/2048%2+n%4294967296/2%16*2) (q:=n%4294967296/4096%2*64+n%4294967296/32%64) o1 o2 hf (Or.inl rfl) b1 b2 c1 c2 (by omega) (by omega) (by omega) (by omega) (by rw [hD];omega) ?_
 intro v h1 h2
 clear hD
 generalize n%4294967296/4096%2=x at *
 generalize n%4294967296/2048%2=y at *
 generalize n%4294967296/32%64=z at *
 generalize n%4294967296/2%16=s at *
 show Dc.sgn 4096 (v/2147483648*4096+v/128%2*2048+v/33554432%64*32+v/256%16*2)=n
 rw [show v/2147483648=x by omega,h1,show (x*64+z)%64=z by omega,show v/128%2=y by omega,show v/256%16=s by omega]
 exact hN
theorem same_6 (o1:1≤op)(o2:op≤57)(hf:Dc.frm op=6)(b1:0≤rs1)(b2:rs1≤31)(c1:0≤rs2)(c2:rs2≤31)(n0 : -2048≤n)(n1:n≤2047):Same op 0 rs1 rs2 n (Wv op 0 rs1 rs2 n):=by
 have hN:Dc.sgn 2048 (n%4294967296/32%128*32+n%4294967296%32)=n:=by unfold Dc.sgn;split<;>omega
 have hD:wI 6 (n%4294967296)=n%4294967296/32%128*33554432+n%4294967296%32*128:=rfl
 refine same_56 (p:=n%4294967296%32) (q:=n%4294967296/32%128) o1 o2 hf (Or.inr rfl) b1 b2 c1 c2 (by omega) (by omega) (by omega) (by omega) (by rw [hD];omega) ?_
 intro v h1 h2
 show Dc.sgn 2048 (v/33554432*32+v/128%32)=n
 rw [h1,h2];exact hN
theorem same_7 (o1:1≤op)(o2:op≤57)(hf:Dc.frm op=7)(a1:0≤rd)(a2:rd≤31)(b1:0≤rs1)(b2:rs1≤31)(c1:0≤rs2)(c2:rs2≤31):Same op rd rs1 rs2 0 (Wv op rd rs1 rs2 0):=by
 obtain ⟨l,m,u,hT,l0,l1,m0,m1,u0,u1,t8,tu,tm⟩:=tb_parts o1 o2
 have hb:=Wv_bd op rd rs1 rs2 0
 rw [Wv_regs hT l0 l1 m0 m1 u0 u1 a1 a2 b1 b2 c1 c2,hf,show wI 7 (0%4294967296)=0 from rfl,or_zero _ (by omega) (by omega)] at hb ⊢
 generalize hv:l+rd*128+m*4096+rs1*32768+rs2*1048576+u*33554432=v at *
 obtain ⟨v1,v2,v3,v4,v5,v6,v7,_,_,_⟩:=canon hv.symm l0 l1 a1 (by omega) m0 m1 b1 (by omega) c1 (by omega)
 exact same_mk hb.1 hb.2 o1 (by omega) hf (show v%128+v/4096%8*4096+v/33554432*33554432=_ by rw [v1,v3,v6];omega) (fun h=>absurd hf (by rw [h];decide)) v2 v4 v5 rfl
theorem same_8 (o1:1≤op)(o2:op≤57)(hf:Dc.frm op=8)(a1:0≤rd)(a2:rd≤31)(b1:0≤rs1)(b2:rs1≤31)(c1:0≤rs2)(c2:rs2≤31)(n0:0≤n)(n1:n≤3)(h46:op=46→rs2=0):Same op rd rs1 rs2 n (Wv op rd rs1 rs2 n):=by
 obtain ⟨l,m,u,hT,l0,l1,m0,m1,u0,u1,t8,tu,tm⟩:=tb_parts o1 o2
 have hu:=t8 hf
 have hb:=Wv_bd op rd rs1 rs2 n
 rw [Wv_regs hT l0 l1 m0 m1 u0 u1 a1 a2 b1 b2 c1 c2,hf] at hb ⊢
 have hD:wI 8 (n%4294967296)=n*2 ^ 25:=by show n%4294967296%4*33554432=_;omega
 have hz:(l+rd*128+m*4096+rs1*32768+rs2*1048576+u*33554432)/2 ^ 25=u:=by omega
 have hV:bits .or .u32 (l+rd*128+m*4096+rs1*32768+rs2*1048576+u*33554432) (wI 8 (n%4294967296))=l+rd*128+m*4096+rs1*32768+rs2*1048576+(u+n)*33554432:=by
  rw [hD,or_ins _ _ 25 2 (by omega) (by omega) (by rw [hz];omega) (by omega) (by omega) (by omega) (by omega)];omega
 rw [hV] at hb ⊢
 generalize hv:l+rd*128+m*4096+rs1*32768+rs2*1048576+(u+n)*33554432=v at *
 obtain ⟨v1,v2,v3,v4,v5,v6,v7,_,_,_⟩:=canon hv.symm l0 l1 a1 (by omega) m0 m1 b1 (by omega) c1 (by omega)
 have v8:v/134217728=u/4:=by omega
 exact same_mk hb.1 hb.2 o1 (by omega) hf (show v%128+v/4096%8*4096+v/134217728*134217728=_ by rw [v1,v3,v8];omega) (fun h=>by rw [v5];exact h46 h) v2 v4 v5 (show v/33554432%4=n by rw [v6];omega)
theorem same_9 (o1:58≤op)(o2:op≤59):Same op 0 0 0 0 (Wv op 0 0 0 0):=by
 have h:op=58∨op=59:=by omega
 rcases h with rfl|rfl
 ·exact same_mk (f:=9) (v:=Wv 58 0 0 0 0) (by decide +kernel) (by decide +kernel) (by omega) (by omega) (by decide) (by decide +kernel) (fun h=>by omega) rfl rfl rfl rfl
 ·exact same_mk (f:=9) (v:=Wv 59 0 0 0 0) (by decide +kernel) (by decide +kernel) (by omega) (by omega) (by decide) (by decide +kernel) (fun h=>by omega) rfl rfl rfl rfl
theorem frm_at_1 (h1:1≤op)(h2:op≤2):Dc.frm op=1:=by
 unfold Dc.frm
 repeat (first|rw [if_pos (by omega)]|rw [if_neg (by omega)])
theorem frm_at_3 (h1:3≤op)(h2:op≤3):Dc.frm op=2:=by
 unfold Dc.frm
 repeat (first|rw [if_pos (by omega)]|rw [if_neg (by omega)])
theorem frm_at_4 (h1:4≤op)(h2:op≤4):Dc.frm op=3:=by
 unfold Dc.frm
 repeat (first|rw [if_pos (by omega)]|rw [if_neg (by omega)])
theorem frm_at_5 (h1:5≤op)(h2:op≤10):Dc.frm op=5:=by
 unfold Dc.frm
 repeat (first|rw [if_pos (by omega)]|rw [if_neg (by omega)])
theorem frm_at_11 (h1:11≤op)(h2:op≤15):Dc.frm op=3:=by
 unfold Dc.frm
 repeat (first|rw [if_pos (by omega)]|rw [if_neg (by omega)])
theorem frm_at_16 (h1:16≤op)(h2:op≤18):Dc.frm op=6:=by
 unfold Dc.frm
 repeat (first|rw [if_pos (by omega)]|rw [if_neg (by omega)])
theorem frm_at_19 (h1:19≤op)(h2:op≤24):Dc.frm op=3:=by
 unfold Dc.frm
 repeat (first|rw [if_pos (by omega)]|rw [if_neg (by omega)])
theorem frm_at_25 (h1:25≤op)(h2:op≤27):Dc.frm op=4:=by
 unfold Dc.frm
 repeat (first|rw [if_pos (by omega)]|rw [if_neg (by omega)])
theorem frm_at_28 (h1:28≤op)(h2:op≤45):Dc.frm op=7:=by
 unfold Dc.frm
 repeat (first|rw [if_pos (by omega)]|rw [if_neg (by omega)])
theorem frm_at_46 (h1:46≤op)(h2:op≤56):Dc.frm op=8:=by
 unfold Dc.frm
 repeat (first|rw [if_pos (by omega)]|rw [if_neg (by omega)])
theorem frm_at_57 (h1:57≤op)(h2:op≤57):Dc.frm op=3:=by
 unfold Dc.frm
 repeat (first|rw [if_pos (by omega)]|rw [if_neg (by omega)])
theorem frm_at_58 (h1:58≤op)(h2:op≤59):Dc.frm op=9:=by
 unfold Dc.frm
 repeat (first|rw [if_pos (by omega)]|rw [if_neg (by omega)])
theorem same_of_is (h:IsP op rd rs1 rs2 n)(n0 : -2147483648≤n)(n1:n<2147483648):Same op rd rs1 rs2 n (Wv op rd rs1 rs2 n):=by
 obtain ⟨⟨o1,o2,a1,a2,b1,b2,c1,c2⟩,h⟩:=h
 rcases h with ⟨p,q,r⟩|⟨p,q,r⟩|⟨p,q,r⟩|⟨p,q,r⟩|⟨p,q,r⟩|⟨p,q,r⟩|⟨p,q,r⟩|⟨p,q,r⟩|⟨p,q,r⟩|⟨p,q,r⟩|⟨p,q,r⟩|⟨p,q,r⟩
 ·obtain ⟨rfl,rfl,r⟩:=r
  exact same_1 o1 (by omega) (frm_at_1 p q) a1 a2 n0 n1 ((tmod_zero _ _).1 r)
 ·obtain ⟨rfl,rfl,r1,r2,r⟩:=r
  exact same_2 o1 (by omega) (frm_at_3 p q) a1 a2 r1 r2 ((tmod_zero _ _).1 r)
 ·obtain ⟨rfl,r1,r2⟩:=r
  exact same_3 o1 (by omega) (frm_at_4 p q) a1 a2 b1 b2 r1 r2
 ·obtain ⟨rfl,r1,r2,r⟩:=r
  exact same_5 o1 (by omega) (frm_at_5 p q) b1 b2 c1 c2 r1 r2 ((tmod_zero _ _).1 r)
 ·obtain ⟨rfl,r1,r2⟩:=r
  exact same_3 o1 (by omega) (frm_at_11 p q) a1 a2 b1 b2 r1 r2
 ·obtain ⟨rfl,r1,r2⟩:=r
  exact same_6 o1 (by omega) (frm_at_16 p q) b1 b2 c1 c2 r1 r2
 ·obtain ⟨rfl,r1,r2⟩:=r
  exact same_3 o1 (by omega) (frm_at_19 p q) a1 a2 b1 b2 r1 r2
 ·obtain ⟨rfl,r1,r2⟩:=r
  exact same_4 o1 (by omega) (frm_at_25 p q) a1 a2 b1 b2 r1 r2
 ·subst r
  exact same_7 o1 (by omega) (frm_at_28 p q) a1 a2 b1 b2 c1 c2
 ·obtain ⟨r1,r2,r⟩:=r
  exact same_8 o1 (by omega) (frm_at_46 p q) a1 a2 b1 b2 c1 c2 r1 r2 (fun h=>by omega)
 ·obtain ⟨rfl,r1,r2⟩:=r
  exact same_3 o1 (by omega) (frm_at_57 p q) a1 a2 b1 b2 r1 r2
 ·obtain ⟨rfl,rfl,rfl,rfl⟩:=r
  exact same_9 p q
theorem is_of_same {v:Int}(h0:0≤v)(h1:v<4294967296)(h:Same op rd rs1 rs2 n v):IsP op rd rs1 rs2 n:=by
 obtain ⟨hok,e0,e1,e2,e3,e4⟩:=h
 have hd:Dc.dop v≠0:=by simpa [decOk] using hok
 have hbd:0≤Dc.dop v∧Dc.dop v≤59:=by
  have:=Dc.raw_bd h0 h1
  unfold Dc.dop;split<;>omega
 have h46:op=46→v/1048576%32=0:=by
  intro h
  rw [h] at e0
  unfold Dc.dop at e0
  split at e0
  ·omega
  ·rename_i hh
   have:Dc.raw v=46:=e0
   omega
 rw [e0] at hd hbd e1 e2 e3 e4
 clear hok e0
 by_cases u1:op≤2
 ·rw [frm_at_1 (by omega) (by omega)] at e1 e2 e3 e4
  have e1:v/128%32=rd:=e1
  have e2:0=rs1:=e2
  have e3:0=rs2:=e3
  have e4:Wd.sg v-v%4096=n:=e4
  exact ⟨⟨by omega,by omega,by omega,by omega,by omega,by omega,by omega,by omega⟩,Or.inl ⟨by omega,by omega,⟨by omega,by omega,(tmod_zero _ _).2 (by unfold Wd.sg at e4;split at e4<;>omega)⟩⟩⟩
 by_cases u3:op≤3
 ·rw [frm_at_3 (by omega) (by omega)] at e1 e2 e3 e4
  have e1:v/128%32=rd:=e1
  have e2:0=rs1:=e2
  have e3:0=rs2:=e3
  have e4:Dc.sgn 1048576 (v/2147483648*1048576+v/4096%256*4096+v/1048576%2*2048+v/2097152%1024*2)=n:=e4
  exact ⟨⟨by omega,by omega,by omega,by omega,by omega,by omega,by omega,by omega⟩,Or.inr (Or.inl ⟨by omega,by omega,⟨by omega,by omega,by unfold Dc.sgn at e4;split at e4<;>omega,by unfold Dc.sgn at e4;split at e4<;>omega,(tmod_zero _ _).2 (by unfold Dc.sgn at e4;split at e4<;>omega)⟩⟩)⟩
 by_cases u4:op≤4
 ·rw [frm_at_4 (by omega) (by omega)] at e1 e2 e3 e4
  have e1:v/128%32=rd:=e1
  have e2:v/32768%32=rs1:=e2
  have e3:0=rs2:=e3
  have e4:Dc.sgn 2048 (v/1048576)=n:=e4
  exact ⟨⟨by omega,by omega,by omega,by omega,by omega,by omega,by omega,by omega⟩,Or.inr (Or.inr (Or.inl ⟨by omega,by omega,⟨by omega,by unfold Dc.sgn at e4;split at e4<;>omega,by unfold Dc.sgn at e4;split at e4<;>omega⟩⟩))⟩
 by_cases u5:op≤10
 ·rw [frm_at_5 (by omega) (by omega)] at e1 e2 e3 e4
  have e1:0=rd:=e1
  have e2:v/32768%32=rs1:=e2
  have e3:v/1048576%32=rs2:=e3
  have e4:Dc.sgn 4096 (v/2147483648*4096+v/128%2*2048+v/33554432%64*32+v/256%16*2)=n:=e4
  exact ⟨⟨by omega,by omega,by omega,by omega,by omega,by omega,by omega,by omega⟩,Or.inr (Or.inr (Or.inr (Or.inl ⟨by omega,by omega,⟨by omega,by unfold Dc.sgn at e4;split at e4<;>omega,by unfold Dc.sgn at e4;split at e4<;>omega,(tmod_zero _ _).2 (by unfold Dc.sgn at e4;split at e4<;>omega)⟩⟩)))⟩
 by_cases u11:op≤15
 ·rw [frm_at_11 (by omega) (by omega)] at e1 e2 e3 e4
  have e1:v/128%32=rd:=e1
  have e2:v/32768%32=rs1:=e2
  have e3:0=rs2:=e3
  have e4:Dc.sgn 2048 (v/1048576)=n:=e4
  exact ⟨⟨by omega,by omega,by omega,by omega,by omega,by omega,by omega,by omega⟩,Or.inr (Or.inr (Or.inr (Or.inr (Or.inl ⟨by omega,by omega,⟨by omega,by unfold Dc.sgn at e4;split at e4<;>omega,by unfold Dc.sgn at e4;split at e4<;>omega⟩⟩))))⟩
 by_cases u16:op≤18
 ·rw [frm_at_16 (by omega) (by omega)] at e1 e2 e3 e4
  have e1:0=rd:=e1
  have e2:v/32768%32=rs1:=e2
  have e3:v/1048576%32=rs2:=e3
  have e4:Dc.sgn 2048 (v/33554432*32+v/128%32)=n:=e4
  exact ⟨⟨by omega,by omega,by omega,by omega,by omega,by omega,by omega,by omega⟩,Or.inr (Or.inr (Or.inr (Or.inr (Or.inr (Or.inl ⟨by omega,by omega,⟨by omega,by unfold Dc.sgn at e4;split at e4<;>omega,by unfold Dc.sgn at e4;split at e4<;>omega⟩⟩)))))⟩
 by_cases u19:op≤24
 ·rw [frm_at_19 (by omega) (by omega)] at e1 e2 e3 e4
  have e1:v/128%32=rd:=e1
  have e2:v/32768%32=rs1:=e2
  have e3:0=rs2:=e3
  have e4:Dc.sgn 2048 (v/1048576)=n:=e4
  exact ⟨⟨by omega,by omega,by omega,by omega,by omega,by omega,by omega,by omega⟩,Or.inr (Or.inr (Or.inr (Or.inr (Or.inr (Or.inr (Or.inl ⟨by omega,by omega,⟨by omega,by unfold Dc.sgn at e4;split at e4<;>omega,by unfold Dc.sgn at e4;split at e4<;>omega⟩⟩))))))⟩
 by_cases u25:op≤27
 ·rw [frm_at_25 (by omega) (by omega)] at e1 e2 e3 e4
  have e1:v/128%32=rd:=e1
  have e2:v/32768%32=rs1:=e2
  have e3:0=rs2:=e3
  have e4:v/1048576%32=n:=e4
  exact ⟨⟨by omega,by omega,by omega,by omega,by omega,by omega,by omega,by omega⟩,Or.inr (Or.inr (Or.inr (Or.inr (Or.inr (Or.inr (Or.inr (Or.inl ⟨by omega,by omega,⟨by omega,by omega,by omega⟩⟩)))))))⟩
 by_cases u28:op≤45
 ·rw [frm_at_28 (by omega) (by omega)] at e1 e2 e3 e4
  have e1:v/128%32=rd:=e1
  have e2:v/32768%32=rs1:=e2
  have e3:v/1048576%32=rs2:=e3
  have e4:0=n:=e4
  exact ⟨⟨by omega,by omega,by omega,by omega,by omega,by omega,by omega,by omega⟩,Or.inr (Or.inr (Or.inr (Or.inr (Or.inr (Or.inr (Or.inr (Or.inr (Or.inl ⟨by omega,by omega,e4.symm⟩))))))))⟩
 by_cases u46:op≤56
 ·rw [frm_at_46 (by omega) (by omega)] at e1 e2 e3 e4
  have e1:v/128%32=rd:=e1
  have e2:v/32768%32=rs1:=e2
  have e3:v/1048576%32=rs2:=e3
  have e4:v/33554432%4=n:=e4
  exact ⟨⟨by omega,by omega,by omega,by omega,by omega,by omega,by omega,by omega⟩,Or.inr (Or.inr (Or.inr (Or.inr (Or.inr (Or.inr (Or.inr (Or.inr (Or.inr (Or.inl ⟨by omega,by omega,⟨by omega,by omega,by by_cases h:op=46;exact Or.inr (by have:=h46 h;omega);exact Or.inl h⟩⟩)))))))))⟩
 by_cases u57:op≤57
 ·rw [frm_at_57 (by omega) (by omega)] at e1 e2 e3 e4
  have e1:v/128%32=rd:=e1
  have e2:v/32768%32=rs1:=e2
  have e3:0=rs2:=e3
  have e4:Dc.sgn 2048 (v/1048576)=n:=e4
  exact ⟨⟨by omega,by omega,by omega,by omega,by omega,by omega,by omega,by omega⟩,Or.inr (Or.inr (Or.inr (Or.inr (Or.inr (Or.inr (Or.inr (Or.inr (Or.inr (Or.inr (Or.inl ⟨by omega,by omega,⟨by omega,by unfold Dc.sgn at e4;split at e4<;>omega,by unfold Dc.sgn at e4;split at e4<;>omega⟩⟩))))))))))⟩
 ·rw [frm_at_58 (by omega) (by omega)] at e1 e2 e3 e4
  have e1:0=rd:=e1
  have e2:0=rs1:=e2
  have e3:0=rs2:=e3
  have e4:0=n:=e4
  exact ⟨⟨by omega,by omega,by omega,by omega,by omega,by omega,by omega,by omega⟩,Or.inr (Or.inr (Or.inr (Or.inr (Or.inr (Or.inr (Or.inr (Or.inr (Or.inr (Or.inr (Or.inr (⟨by omega,by omega,⟨e1.symm,e2.symm,e3.symm,e4.symm⟩⟩)))))))))))⟩
end Go.Proofs.YtchllaeembmioaaGreatDoor.Dw
namespace Go.Proofs.YtchllaeembmioaaGreatDoor.Ts
open Go.ChangeShapes Go.WideShapes Go.ChangeAt Go.RowKit Mm Hc Mi Bk
open Hh hiding Rn

variable {w : World} {sa : Option Addr} {x : Int} {xs : List Int} {b : Nat}
theorem immX_bd {v:Int}(f:Int)(h0:0≤v)(h1:v<4294967296) : -2147483648≤Dc.immF f v∧Dc.immF f v<2147483648:=by
 unfold Dc.immF Wd.sg Dc.sgn
 repeat' split
 all_goals omega
theorem ivX_sound (h0:0≤x)(h1:x<4294967296)(hx:¬Dc.dop x=0):(ivX x).Sound:=by
 have b:=immX_bd (Dc.frm (Dc.dop x)) h0 h1
 have hs:Dw.Same (Dc.dop x) (Dc.rdF (Dc.frm (Dc.dop x)) x) (Dc.rs1F (Dc.frm (Dc.dop x)) x) (Dc.rs2F (Dc.frm (Dc.dop x)) x) (Dc.immF (Dc.frm (Dc.dop x)) x) x:=⟨by unfold Dw.decOk;simpa using hx,rfl,rfl,rfl,rfl,rfl⟩
 exact Dw.same_of_is (Dw.is_of_same h0 h1 hs) b.1 b.2
theorem ivX_ok (h0:0≤x)(h1:x<4294967296)(hx:¬Dc.dop x=0):(ivX x).Ok:=by
 have i:=ivX_in h0 h1 hx
 have b:=immX_bd (Dc.frm (Dc.dop x)) h0 h1
 exact ⟨by have:=i.o1;have:=i.o2;unfold I64;omega,by have:=i.d0;have:=i.d1;unfold I64;omega,by have:=i.a0;have:=i.a1;unfold I64;omega,by have:=i.b0;have:=i.b1;unfold I64;omega,b.1,by show Dc.immF (Dc.frm (Dc.dop x)) x≤2147483647;omega⟩
def Words (xs:List Int):Prop:=∀x∈xs,0≤x∧x<4294967296∧¬Dc.dop x=0
theorem is_own {base:Nat}{sc:Nat}(O:w.ownsRow base 77 5 (.slice sa xs.length sc) xs.length (blC xs))(hx:Words xs):Is w sa xs.length (xs.map ivX):=by
 refine ⟨by simp,fun i hi=>?_,fun h0=>?_⟩
 ·obtain ⟨x,hm,rfl⟩:=List.mem_map.1 hi
  obtain ⟨a,b,c⟩:=hx x hm
  exact ivX_ok a b c
 ·obtain ⟨g,c,e,hg,hc⟩:=at_own O h0
  injection e with e1 _ _
  refine ⟨g,0,e1,hg,fun j i hj=>?_⟩
  rw [List.getElem?_map] at hj
  cases hxj:xs[j]? with
  | none=>rw [hxj] at hj;cases hj
  | some x=>
   rw [hxj] at hj
   simp at hj
   subst hj
   rw [Nat.zero_add]
   have q:=fun t (ht:t<5)=>blC_get xs j t x hxj ht
   refine ⟨hc _ _ ?_,hc _ _ ?_,hc _ _ ?_,hc _ _ ?_,hc _ _ ?_⟩
   ·have:=q 0 (by omega);rwa [Nat.add_zero] at this
   ·exact q 1 (by omega)
   ·exact q 2 (by omega)
   ·exact q 3 (by omega)
   ·exact q 4 (by omega)
theorem blk_words (l:List UInt8)(pc:Int):Words (blk l pc 16 0):=fun x hx=>by
 obtain ⟨j,hj⟩:=List.mem_iff_getElem?.1 hx
 obtain ⟨a,b,_⟩:=(blk_facts l pc 16 0).2 j (List.getElem?_eq_some_iff.1 hj).1
 rw [Nat.zero_add] at a b
 rw [b] at hj
 injection hj with hj
 subst hj
 have:=W.ldV l 13 (at4 pc j)
 exact ⟨this.1,this.2,(ft_zero a).2⟩
theorem Make_ctw (pc:Int)(sc:Nat)(O:w.ownsRow b 77 5 (.slice sa xs.length sc) xs.length (blC xs))(hx:Words xs)(T:Dw.Tab w)(Q:Tq w)(hn:xs.length≤16):Calls Tryz.prog 72 #[.agg #[.int .u32 pc,.slice sa xs.length sc]] w fun e w'=>∃ca cn cc,e=.returned (.slice ca cn cc)∧Ct w' ca cn (codeV pc (xs.map ivX) 0)∧Gr w w':=
 Make_ct pc sc (is_own O hx) T Q hn fun i hi=>by
  obtain ⟨x,hm,rfl⟩:=List.mem_map.1 hi
  obtain ⟨a,b,c⟩:=hx x hm
  exact ivX_sound a b c
end Go.Proofs.YtchllaeembmioaaGreatDoor.Ts
namespace Go.Proofs.YtchllaeembmioaaGreatDoor.Bk
open Go.ChangeShapes Go.WideShapes Go.ChangeAt Go.RowKit Mm Hh Hc

variable {w W w' : World} {base e sz n b t k g : Nat} {v z0 z1 : Value} {xs : List Value}
def bkP (n:Nat) (pc:Int):Int:=if 4096<n then 0 else pc
def bkX (n:Nat) (l:List UInt8) (pc:Int):List Int:=if 4096<n then [] else blk l pc 16 0
theorem iB:(Tryz.prog.info? 45).map (·.size)=some 2:=by kernel_rfl
theorem infoI:(Tryz.prog.info? 77).map (fun i=>(i.zero,i.size,i.bytes))=some (some (.agg #[.int .i64 0,.int .i64 0,.int .i64 0,.int .i64 0,.int .i32 0]),5,40):=by kernel_rfl
theorem owns_form (h:w.ownsRow base e sz v n xs):∃a c,v=.slice a n c:=by
 rcases h.2 with ⟨rfl,rfl⟩|⟨g,cap,_,rfl,_⟩
 ·exact ⟨none,0,rfl⟩
 ·exact ⟨_,cap,rfl⟩
theorem owns_base {b':Nat}(h:w.ownsRow b e sz v n xs)(hb:b'≤b):w.ownsRow b' e sz v n xs:=by
 refine ⟨h.1,?_⟩
 rcases h.2 with h|⟨g',cap,cur,hv,hb1,r⟩
 ·exact .inl h
 ·exact .inr ⟨g',cap,cur,hv,by omega,r⟩
theorem five_cells {x0 x1 x2 x3 x4:Value}(h0:W.cell? ⟨b,0,none⟩=some x0)(h1:W.cell? ⟨b,1,none⟩=some x1)(h2:W.cell? ⟨b,2,none⟩=some x2)(h3:W.cell? ⟨b,3,none⟩=some x3)(h4:W.cell? ⟨b,4,none⟩=some x4):∀j u,([x0,x1,x2,x3,x4]:List Value)[j]?=some u→W.cell? ((⟨b,0,none⟩:Addr).add j)=some u:=by
 intro j u hj
 rw [add_at]
 match j,hj with
 | 0,hj=>simp at hj;subst hj;exact h0
 | 1,hj=>simp at hj;subst hj;exact h1
 | 2,hj=>simp at hj;subst hj;exact h2
 | 3,hj=>simp at hj;subst hj;exact h3
 | 4,hj=>simp at hj;subst hj;exact h4
theorem ends_any (op:Int)(w:World):Calls Tryz.prog 94 #[.int .i64 op] w fun e w'=>e=.returned (.bool (lastOp op))∧w'=w:=by
 go_enter Tryz.func94,Tryz.ntmps94
 go_wp2
 all_goals
  go_ret
  refine ⟨Dw.ret_bool ?_,rfl⟩
  simp only [beq_iff_eq,beq_eq_false_iff_ne,ne_eq] at *
  unfold lastOp
  first|exact (decide_eq_true (by omega)).symm|exact (decide_eq_false (by omega)).symm
structure Aft (w w3:World) (g gi:Nat) (pc:Int) (v:Value) (k:Nat) (xs:List Value) (y:Value):Prop where
 b1:w3.heap[g+1]?=some (.cells #[.int .u32 pc,v] 45 (0,0))
 b0:w3.heap[g]?=some (.cells #[.int .u32 0,.slice none 0 0] 45 (0,0))
 own:w3.ownsRow (g+2) 77 5 v k xs
 gr:Gr w w3
 op:w3.cell? ⟨gi,0,none⟩=some y
theorem grown_hold {O:Value}(hO:w.ownsRow base e sz O n xs)(q:w.grownBy w' O.ownBlock)(ht:t≠e){o:Array Value}{f:Nat×Nat}(hk:w.heap[k]?=some (.cells o t f)):w'.heap[k]?=some (.cells o t f):=
 (q.block k (gs hk).1 (fun h=>by
  rcases hO.2 with ⟨h0,_⟩|⟨g',cap,cur,hv,_,hg,_⟩
  ·rw [h0] at h;cases h
  ·rw [hv] at h
   injection h with h
   exact ne_of_types hk hg ht h)).trans hk
theorem heap_held (g:Gr w w'){x:Obj}(h:w.heap[k]?=some x):w'.heap[k]?=some x:=by
 rw [Below.block g k (gs h).1];exact h
theorem aft {wr w1 w2:World}{pc:Int}{S v':Value}{xs':List Value}{Y Z:Array Value}{y:Value}(hg:w.heap.size=g)(B1:wr.heap[g+1]?=some (.cells #[.int .u32 pc,S] 45 (0,0)))(B0:wr.heap[g]?=some (.cells #[.int .u32 0,.slice none 0 0] 45 (0,0)))
  (O:wr.ownsRow (g+2) 77 5 S k xs)(G:Gr w wr)(G1:Gr wr w1)(q:((w1.alloc (.cells Y 77)).alloc (.cells Z 77)).grownBy w2 S.ownBlock)(O2:w2.ownsRow (g+2) 77 5 v' (k+1) xs')(hy:Y[0]?=some y):
  w2.cell? ⟨g+1,1,none⟩=some S∧w2.frozen? ⟨g+1,1,none⟩=false∧Aft w (w2.setCell ⟨g+1,1,none⟩ v') g w1.heap.size pc v' (k+1) xs' y:=by
 have G2:Gr wr ((w1.alloc (.cells Y 77)).alloc (.cells Z 77)):=(G1.alloc _).alloc _
 have O1:=owns_gr O G2
 have b1:=grown_hold O1 q (by decide) (heap_held G2 B1)
 have b0:=grown_hold O1 q (by decide) (heap_held G2 B0)
 have hY:w2.heap[w1.heap.size]?=some (.cells Y 77 (0,0)):=by
  have e:((w1.alloc (.cells Y 77)).alloc (.cells Z 77)).heap[w1.heap.size]?=some (.cells Y 77 (0,0)):=heap_alloc2_old w1 _ _
  refine (q.block _ (gs e).1 (fun h=>?_)).trans e
  have:=(O.lt _ h.symm).2
  have:=G1.size
  omega
 have ne:∀{t:Nat},t≠45→∀{k:Nat} {o:Array Value} {f:Nat×Nat},w2.heap[k]?=some (.cells o t f)→(w2.setCell ⟨g+1,1,none⟩ v').heap[k]?=w2.heap[k]?:=fun ht _ _ _ hk=>hso (by exact ne_of_types hk b1 ht)
 refine ⟨cr b1,fzr b1,?_,?_,?_,?_,?_⟩
 ·rw [hss b1];rfl
 ·exact (hso (by show g≠g+1;omega)).trans b0
 ·exact owns_to O2 fun k o f hk=>ne (by decide) hk
 ·refine Gr.setCell ?_ (by show w.heap.size≤g+1;omega) _
  exact (G.trans G2).grown q (fun b e=>by have:=(O.lt b e).1;omega)
 ·exact (cr ((ne (by decide) hY).trans hY)).trans hy
theorem two_set (h:W.heap[g]?=some (.cells #[z0,z1] t (0,0)))(a b:Value):((W.setCell ⟨g,0,none⟩ a).setCell ⟨g,1,none⟩ b).heap[g]?=some (.cells #[a,b] t (0,0)):=by
 have h0:=heap_setCell_same W g 0 _ _ a h
 exact heap_setCell_same _ g 1 _ _ b h0
theorem two_owns (h:W.ownsRow base 77 5 v n xs)(hb:W.heap[g]?=some (.cells #[z0,z1] 45 (0,0)))(hg:g≤base)(a b:Value):((W.setCell ⟨g,0,none⟩ a).setCell ⟨g,1,none⟩ b).ownsRow g 77 5 v n xs:=
 owns_base (owns_to h fun k o f hk=>by
  have e:=ne_of_types hk hb (by decide)
  rw [hso (by exact e),hso (by exact e)]) hg
theorem ins_oneL (x0 x1 x2 x3 x4:Int):∀u∈([.int .i64 x0,.int .i64 x1,.int .i64 x2,.int .i64 x3,.int .i32 x4]:List Value),u.oneCell'=true:=by
 intro u hu
 simp only [List.mem_cons,List.not_mem_nil,or_false] at hu
 rcases hu with rfl|rfl|rfl|rfl|rfl<;>rfl
theorem Make_yes {w:World}{ao:Option Addr}{n:Nat}(cap:Nat){l:List UInt8}(pc:Int)(M:Mem w ao n l)(T:Dw.Tab w)(hn:n≤4096)(h0:0≤pc)(h1:pc<4294967296):
  Calls Tryz.prog 71 #[.slice ao n cap,.int .u32 pc] w fun e w'=>∃v,e=.returned (.agg #[.int .u32 (bkP n pc),v])∧w'.ownsRow w.heap.size 77 5 v (bkX n l pc).length (blC (bkX n l pc))∧Gr w w':=by
 have e1:bkP n pc=pc:=if_neg (by omega)
 have e2:bkX n l pc=blk l pc 16 0:=if_neg (by omega)
 rw [e1,e2]
 have HT:∀W:World,Gr w W→Dw.Tab W:=fun W G=>⟨fun i v e=>(G.cell _ (by exact Dw.lt_of_cell (T.shapes i v e))).trans (T.shapes i v e),fun i v e=>(G.cell _ (by exact Dw.lt_of_cell (T.uppers i v e))).trans (T.uppers i v e)⟩
 have F:Hid (∀(k:Nat) (W:World),Gr w W→Calls Tryz.prog 66 #[.slice ao n cap,.int .u32 ((pc+4*(k:Int))%4294967296)] W fun e w'=>e=.returned (.tuple #[Dw.decV (ldV l 13 (at4 pc k)),.int .i64 (ftC l (at4 pc k))])∧Gr W w'):=fun k W G=>Hf.Fetch_any cap (at4 pc k) (M.of G) (HT W G) (by omega) (at4_bd pc k).1 (at4_bd pc k).2
 obtain ⟨i0,hi,hz0,hz1,hz2⟩:=info_parts infoI
 clear e1 e2 M T HT
 go_enter Tryz.func71,Tryz.ntmps71
 go_wp2_with fail
 go_loopw [15] (fun i wr=>∃(k:Nat) (xs:List Int) (a:Option Addr) (c:Nat),k≤16∧i=.int .u32 k∧xs.length=k∧xs++blk l pc (16-k) k=blk l pc 16 0∧wr.heap[w.heap.size+1]?=some (.cells #[.int .u32 pc,.slice a k c] 45 (0,0))∧wr.heap[w.heap.size]?=some (.cells #[.int .u32 0,.slice none 0 0] 45 (0,0))∧wr.ownsRow (w.heap.size+2) 77 5 (.slice a k c) k (blC xs)∧Gr w wr) (fun i _=>16-(intOf i).toNat)
 case atStart=>exact ⟨0,[],none,0,by omega,rfl,rfl,rfl,heap_alloc2_new w _ _,heap_alloc2_old w _ _,World.ownsRow_nil _ _ _ _,((Gr.refl _).alloc _).alloc _⟩
 case round=>
  obtain ⟨k,xs,a,c,hk,rfl,hl,hx,B1,B0,O,G⟩:=hrel
  have HX:Hid (xs++blk l pc (16-k) k=blk l pc 16 0):=hx
  have HL:Hid (xs.length=k):=hl
  have HB1:Hid (wr.heap[w.heap.size+1]?=some (.cells #[.int .u32 pc,.slice a k c] 45 (0,0))):=B1
  have HB0:Hid (wr.heap[w.heap.size]?=some (.cells #[.int .u32 0,.slice none 0 0] 45 (0,0))):=B0
  have HO:Hid (wr.ownsRow (w.heap.size+2) 77 5 (.slice a k c) k (blC xs)):=O
  have HG:Hid (Gr w wr):=G
  have hlt:w.heap.size+1<wr.heap.size:=(Array.getElem?_eq_some_iff.1 B1).1
  clear hl hx B1 B0 O G
  by_cases h16:k<16
  ·have FK:Hid _:=F.out k
   have HA:Hid (¬ftC l (at4 pc k)=0→xs=blk l pc 16 0):=fun h=>by
    have e:=HX.out
    rw [show 16-k=(15-k)+1 by omega,blk_stop h,List.append_nil] at e
    exact e
   have HBe:Hid (ftC l (at4 pc k)=0→lastOp (Dc.dop (ldV l 13 (at4 pc k)))=true→xs++[ldV l 13 (at4 pc k)]=blk l pc 16 0):=fun h h2=>by
    have e:=HX.out
    rw [show 16-k=(15-k)+1 by omega,blk_last h h2] at e
    exact e
   have HC:Hid (ftC l (at4 pc k)=0→lastOp (Dc.dop (ldV l 13 (at4 pc k)))=false→(xs++[ldV l 13 (at4 pc k)])++blk l pc (16-(k+1)) (k+1)=blk l pc 16 0):=fun h h2=>by
    have e:=HX.out
    rw [show 16-k=(15-k)+1 by omega,blk_on h h2] at e
    rw [show 16-(k+1)=15-k by omega]
    simpa using e
   have HIC:Hid (insC (ldV l 13 (at4 pc k))=[.int .i64 (Dc.dop (ldV l 13 (at4 pc k))),.int .i64 (Dc.rdF (Dc.frm (Dc.dop (ldV l 13 (at4 pc k)))) (ldV l 13 (at4 pc k))),.int .i64 (Dc.rs1F (Dc.frm (Dc.dop (ldV l 13 (at4 pc k)))) (ldV l 13 (at4 pc k))),.int .i64 (Dc.rs2F (Dc.frm (Dc.dop (ldV l 13 (at4 pc k)))) (ldV l 13 (at4 pc k))),.int .i32 (Dc.immF (Dc.frm (Dc.dop (ldV l 13 (at4 pc k)))) (ldV l 13 (at4 pc k)))]):=rfl
   clear HX
   unfold Dw.decV Dw.insV at FK
   clear F
   generalize ldV l 13 (at4 pc k)=X at *
   generalize ftC l (at4 pc k)=cc at *
   generalize Dc.rdF (Dc.frm (Dc.dop X)) X=x1 at *
   generalize Dc.rs1F (Dc.frm (Dc.dop X)) X=x2 at *
   generalize Dc.rs2F (Dc.frm (Dc.dop X)) X=x3 at *
   generalize Dc.immF (Dc.frm (Dc.dop X)) X=x4 at *
   generalize Dc.dop X=x0 at *
   have FK2:Hid (∀W:World,Gr w W→Calls Tryz.prog 66 #[.slice ao n cap,.int .u32 ((pc+4*(k:Int))%4294967296)] W fun e w'=>e=.returned (.tuple #[.agg #[.int .i64 x0,.int .i64 x1,.int .i64 x2,.int .i64 x3,.int .i32 x4],.int .i64 cc])∧Gr W w'):=FK
   clear FK
   by_cases hc:cc=0
   ·subst hc
    go_wp2_with fail
    refine (FK2.out _ HG.out).mono ?_
    rintro e w1 ⟨rfl,G1⟩
    have HG1:Hid (Gr wr w1):=G1
    have q1:w1.cell? ⟨w.heap.size+1,1,none⟩=some (.slice a k c):=cell_of_row _ _ _ _ _ _ (heap_held G1 HB1.out)
    have hlt1:w.heap.size+1<w1.heap.size:=Nat.lt_of_lt_of_le hlt G1.size
    clear G1 FK2
    go_wp2_with (at_builtin;refine wpList_append_own _ rfl (.tmp 30) (.tmp 32) 43 rfl (w.heap.size+2) 77 i0 (.agg #[.int .i64 0,.int .i64 0,.int .i64 0,.int .i64 0,.int .i32 0]) 5 40 Tryz.underlying43 hi hz0 hz1 hz2 rfl (by decide) (.slice a k c) k (blC xs) rfl (owns_gr HO.out ((HG1.out.alloc _).alloc _)) ⟨w1.heap.size+1,0,none⟩ 1 1 [.int .i64 x0,.int .i64 x1,.int .i64 x2,.int .i64 x3,.int .i32 x4] rfl rfl (five_cells (by simp) (by simp) (by simp) (by simp) (by simp)) (ins_oneL _ _ _ _ _) (by unfold maxLen;omega) (by omega) (by simp;omega) ?_;intro v' w2 hown hgrow _;obtain ⟨a',c',rfl⟩:=owns_form hown;obtain ⟨z1,z2,A0⟩:=aft rfl HB1.out HB0.out HO.out HG.out HG1.out hgrow hown (y:=.int .i64 x0) (by simp);have HF:Hid (Aft w (w2.setCell ⟨w.heap.size+1,1,none⟩ (.slice a' (k+1) c')) w.heap.size w1.heap.size pc (.slice a' (k+1) c') (k+1) (blC xs++[.int .i64 x0,.int .i64 x1,.int .i64 x2,.int .i64 x3,.int .i32 x4]) (.int .i64 x0)):=A0;have z3:=A0.op;clear A0 hown hgrow)
    clear z1 z2 z3 HO HB1 HB0 HG HG1 q1
    generalize w2.setCell ⟨w.heap.size+1,1,none⟩ (.slice a' (k+1) c')=w3 at *
    have HLN:Hid ((xs++[X]).length=k+1):=by unfold Hid;rw [List.length_append,HL.out];rfl
    have HCC:Hid (blC (xs++[X])=blC xs++[.int .i64 x0,.int .i64 x1,.int .i64 x2,.int .i64 x3,.int .i32 x4]):=by unfold Hid;rw [blC_snoc,HIC.out]
    cases hL:lastOp x0 with
    | true=>
     have HE:Hid (∀W:World,Calls Tryz.prog 94 #[.int .i64 x0] W fun e w'=>e=.returned (.bool true)∧w'=W):=fun W=>by have:=ends_any x0 W;rwa [hL] at this
     have HXE:Hid (xs++[X]=blk l pc 16 0):=HBe.out (by simp) hL
     refine (HE.out _).mono ?_
     rintro e w4 ⟨rfl,rfl⟩
     clear HE hL HBe HC HA
     have HOW:Hid (w4.ownsRow (w.heap.size+2) 77 5 (.slice a' (k+1) c') (blk l pc 16 0).length (blC (blk l pc 16 0))):=(by unfold Hid;rw [←HXE.out,HLN.out,HCC.out];exact HF.out.own)
     have q0:w4.cell? ⟨w.heap.size+1,0,none⟩=some (.int .u32 pc):=cell_of_row _ _ _ _ _ _ HF.out.b1
     have q1:w4.cell? ⟨w.heap.size+1,1,none⟩=some (.slice a' (k+1) c'):=cell_of_row _ _ _ _ _ _ HF.out.b1
     have r0:w4.cell? ⟨w.heap.size,0,none⟩=some (.int .u32 0):=cell_of_row _ _ _ _ _ _ HF.out.b0
     have r1:w4.cell? ⟨w.heap.size,1,none⟩=some (.slice none 0 0):=cell_of_row _ _ _ _ _ _ HF.out.b0
     have f0:∀j,w4.frozen? ⟨w.heap.size,j,none⟩=false:=fun j=>frozen_of_row _ _ _ _ _ HF.out.b0
     go_wp2_with fail
     refine bodyPost_ret (v:=.agg #[.int .u32 pc,.slice a' (k+1) c']) (results_cell_row Tryz.results71 _ _ _ _ _ (0,0) _ rfl (two_set HF.out.b0 _ _) Tryz.underlying45 rfl iB) rfl ⟨_,rfl,?_,?_⟩
     ·exact two_owns HOW.out HF.out.b0 (by omega) _ _
     ·exact (HF.out.gr.setCell (Nat.le_refl _) _).setCell (Nat.le_refl _) _
    | false=>
     have HE:Hid (∀W:World,Calls Tryz.prog 94 #[.int .i64 x0] W fun e w'=>e=.returned (.bool false)∧w'=W):=fun W=>by have:=ends_any x0 W;rwa [hL] at this
     have HXE:Hid ((xs++[X])++blk l pc (16-(k+1)) (k+1)=blk l pc 16 0):=HC.out (by simp) hL
     refine (HE.out _).mono ?_
     rintro e w4 ⟨rfl,rfl⟩
     clear HE hL HBe HC HA
     go_wp2_with fail
     go_roundw
     case rel=>exact ⟨k+1,xs++[X],a',c',by omega,by go_num,HLN.out,HXE.out,HF.out.b1,HF.out.b0,by rw [HCC.out];exact HF.out.own,HF.out.gr⟩
     case measure=>simp [intOf];omega
   ·have hb:(cc == 0)=false:=by simpa using hc
    have HXE:Hid (xs=blk l pc 16 0):=HA.out hc
    go_wp2_with fail
    refine (FK2.out _ HG.out).mono ?_
    rintro e w1 ⟨rfl,G1⟩
    have HG1:Hid (Gr wr w1):=G1
    have HGA:Hid (Gr wr (w1.alloc (.cells #[.int .i64 x0,.int .i64 x1,.int .i64 x2,.int .i64 x3,.int .i32 x4] 77))):=G1.alloc _
    clear G1 FK2
    have HOW:Hid ((w1.alloc (.cells #[.int .i64 x0,.int .i64 x1,.int .i64 x2,.int .i64 x3,.int .i32 x4] 77)).ownsRow (w.heap.size+2) 77 5 (.slice a (k) c) (blk l pc 16 0).length (blC (blk l pc 16 0))):=(by unfold Hid;rw [←HXE.out,HL.out];exact owns_gr HO.out HGA.out)
    have q0:(w1.alloc (.cells #[.int .i64 x0,.int .i64 x1,.int .i64 x2,.int .i64 x3,.int .i32 x4] 77)).cell? ⟨w.heap.size+1,0,none⟩=some (.int .u32 pc):=cell_of_row _ _ _ _ _ _ (heap_held HGA.out HB1.out)
    have q1:(w1.alloc (.cells #[.int .i64 x0,.int .i64 x1,.int .i64 x2,.int .i64 x3,.int .i32 x4] 77)).cell? ⟨w.heap.size+1,1,none⟩=some (.slice a (k) c):=cell_of_row _ _ _ _ _ _ (heap_held HGA.out HB1.out)
    have r0:(w1.alloc (.cells #[.int .i64 x0,.int .i64 x1,.int .i64 x2,.int .i64 x3,.int .i32 x4] 77)).cell? ⟨w.heap.size,0,none⟩=some (.int .u32 0):=cell_of_row _ _ _ _ _ _ (heap_held HGA.out HB0.out)
    have r1:(w1.alloc (.cells #[.int .i64 x0,.int .i64 x1,.int .i64 x2,.int .i64 x3,.int .i32 x4] 77)).cell? ⟨w.heap.size,1,none⟩=some (.slice none 0 0):=cell_of_row _ _ _ _ _ _ (heap_held HGA.out HB0.out)
    have f0:∀j,(w1.alloc (.cells #[.int .i64 x0,.int .i64 x1,.int .i64 x2,.int .i64 x3,.int .i32 x4] 77)).frozen? ⟨w.heap.size,j,none⟩=false:=fun j=>frozen_of_row _ _ _ _ _ (heap_held HGA.out HB0.out)
    go_wp2_with fail
    refine bodyPost_ret (v:=.agg #[.int .u32 pc,.slice a (k) c]) (results_cell_row Tryz.results71 _ _ _ _ _ (0,0) _ rfl (two_set (heap_held HGA.out HB0.out) _ _) Tryz.underlying45 rfl iB) rfl ⟨_,rfl,?_,?_⟩
    ·exact two_owns HOW.out (heap_held HGA.out HB0.out) (by omega) _ _
    ·exact ((HG.out.trans HGA.out).setCell (Nat.le_refl _) _).setCell (Nat.le_refl _) _
  ·have k16:k=16:=by omega
   subst k16
   have HXE:Hid (xs=blk l pc 16 0):=by have:=HX.out;rw [blk_zero,List.append_nil] at this;exact this
   clear F HX
   have HOW:Hid (wr.ownsRow (w.heap.size+2) 77 5 (.slice a (16) c) (blk l pc 16 0).length (blC (blk l pc 16 0))):=(by unfold Hid;rw [←HXE.out,HL.out];exact HO.out)
   have q0:wr.cell? ⟨w.heap.size+1,0,none⟩=some (.int .u32 pc):=cell_of_row _ _ _ _ _ _ HB1.out
   have q1:wr.cell? ⟨w.heap.size+1,1,none⟩=some (.slice a (16) c):=cell_of_row _ _ _ _ _ _ HB1.out
   have r0:wr.cell? ⟨w.heap.size,0,none⟩=some (.int .u32 0):=cell_of_row _ _ _ _ _ _ HB0.out
   have r1:wr.cell? ⟨w.heap.size,1,none⟩=some (.slice none 0 0):=cell_of_row _ _ _ _ _ _ HB0.out
   have f0:∀j,wr.frozen? ⟨w.heap.size,j,none⟩=false:=fun j=>frozen_of_row _ _ _ _ _ HB0.out
   go_wp2_with fail
   refine bodyPost_ret (v:=.agg #[.int .u32 pc,.slice a (16) c]) (results_cell_row Tryz.results71 _ _ _ _ _ (0,0) _ rfl (two_set HB0.out _ _) Tryz.underlying45 rfl iB) rfl ⟨_,rfl,?_,?_⟩
   ·exact two_owns HOW.out HB0.out (by omega) _ _
   ·exact (HG.out.setCell (Nat.le_refl _) _).setCell (Nat.le_refl _) _
end Go.Proofs.YtchllaeembmioaaGreatDoor.Bk
