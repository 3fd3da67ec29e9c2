/-
  Dec, Hs, Hc, MemWalks: texts of ours that lie in one file.
-/
import Derived.Test.YtchllaeembmioaaGreatDoorK01
import Derived.Deep.RegionLaw
set_option linter.unusedVariables false
set_option linter.unusedSimpArgs false
set_option maxHeartbeats 8000000
set_option maxRecDepth 100000
namespace Go.Proofs.YtchllaeembmioaaGreatDoor.Dc
open Wd

variable {w lo mi k : Int}
def pk (n:Int):List (Int×Int)→Int
 | []=>0
 | (a,o)::r=>if n=a then o else pk n r
def lB:List (Int×Int):=[(0,5),(1,6),(4,7),(5,8),(6,9),(7,10)]
def lL:List (Int×Int):=[(0,11),(1,12),(2,13),(4,14),(5,15)]
def lS:List (Int×Int):=[(0,16),(1,17),(2,18)]
def lH:List (Int×Int):=[(1,25),(5,26),(261,27)]
def lI:List (Int×Int):=[(0,19),(2,20),(3,21),(4,22),(6,23),(7,24)]
def lR0:List (Int×Int):=[(0,28),(1,30),(2,31),(3,32),(4,33),(5,34),(6,36),(7,37)]
def lR32:List (Int×Int):=[(0,29),(5,35)]
def lR1:List (Int×Int):=[(0,38),(1,39),(2,40),(3,41),(4,42),(5,43),(6,44),(7,45)]
def lA:List (Int×Int):=[(2,46),(3,47),(1,48),(0,49),(4,50),(12,51),(8,52),(16,53),(20,54),(24,55),(28,56)]
def lE:List (Int×Int):=[(115,58),(1048691,59)]
def rawOf (w lo mi up:Int):Int:=
 if lo=55 then 1 else if lo=23 then 2 else if lo=111 then 3
 else if lo=103 then pk mi [(0,4)] else if lo=99 then pk mi lB else if lo=3 then pk mi lL else if lo=35 then pk mi lS
 else if lo=19 then (if mi=1∨mi=5 then pk (8*up+mi) lH else pk mi lI)
 else if lo=51 then (if up=0 then pk mi lR0 else if up=32 then pk mi lR32 else if up=1 then pk mi lR1 else 0)
 else if lo=47 then (if mi=2 then pk (up/4) lA else 0)
 else if lo=15 then pk mi [(0,57)] else if lo=115 then pk w lE else 0
def raw (w:Int):Int:=rawOf w (w%128) (w/4096%8) (w/33554432)
def frm (k:Int):Int:=
 if k=1∨k=2 then 1 else if k=3 then 2 else if k=4 then 3 else if 5≤k∧k≤10 then 5 else if 11≤k∧k≤15 then 3
 else if 16≤k∧k≤18 then 6 else if 19≤k∧k≤24 then 3 else if 25≤k∧k≤27 then 4 else if 28≤k∧k≤45 then 7
 else if 46≤k∧k≤56 then 8 else if k=57 then 3 else if k=58∨k=59 then 9 else 0
def mask (f:Int):Int:=
 if f=1∨f=2 then 127 else if f=3∨f=5∨f=6 then 28799 else if f=4∨f=7 then 4261441663 else if f=8 then 4160778367 else if f=9 then 4294967295 else 0
def nth (l:List Int) (k:Int):Int:=l.getD k.toNat 0
def uppers:List Int:=[0,0,0,0,0,0,0,0,0,0,0,0,0,0,0,0,0,0,0,0,0,0,0,0,0,0,0,32,0,32,0,0,0,0,0,32,0,0,1,1,1,1,1,1,1,1,8,12,4,0,16,48,32,64,80,96,112,0,0,0]
def rowOf (op first low:Int) (mids:List Int):Int:=low+nth mids (op-first)*4096+nth uppers op*33554432
def tbits (k:Int):Int:=
 if k=1 then 55 else if k=2 then 23 else if k=3 then 111 else if k=4 then rowOf k 4 103 [0] else if 5≤k∧k≤10 then rowOf k 5 99 [0,1,4,5,6,7]
 else if 11≤k∧k≤15 then rowOf k 11 3 [0,1,2,4,5] else if 16≤k∧k≤18 then rowOf k 16 35 [0,1,2] else if 19≤k∧k≤24 then rowOf k 19 19 [0,2,3,4,6,7]
 else if 25≤k∧k≤27 then rowOf k 25 19 [1,5,5] else if 28≤k∧k≤37 then rowOf k 28 51 [0,0,1,2,3,4,5,5,6,7] else if 38≤k∧k≤45 then rowOf k 38 51 [0,1,2,3,4,5,6,7]
 else if 46≤k∧k≤56 then rowOf k k 47 [2] else if k=57 then rowOf k 57 15 [0] else if k=58 then 115 else if k=59 then 1048691 else 0
def dop (w:Int):Int:=if raw w=46∧w/1048576%32≠0 then 0 else raw w
def sgn (h n:Int):Int:=if n≥h then n-2*h else n
def immF (f w:Int):Int:=
 if f=1 then sg w-w%4096
 else if f=2 then sgn 1048576 (w/2147483648*1048576+w/4096%256*4096+w/1048576%2*2048+w/2097152%1024*2)
 else if f=3 then sgn 2048 (w/1048576)
 else if f=4 then w/1048576%32
 else if f=5 then sgn 4096 (w/2147483648*4096+w/128%2*2048+w/33554432%64*32+w/256%16*2)
 else if f=6 then sgn 2048 (w/33554432*32+w/128%32)
 else if f=8 then w/33554432%4 else 0
def hasRd (f:Int):Bool:=f == 1 || f == 2 || f == 3 || f == 4 || f == 7 || f == 8
def hasRs1 (f:Int):Bool:=f == 3 || f == 4 || f == 5 || f == 6 || f == 7 || f == 8
def hasRs2 (f:Int):Bool:=f == 5 || f == 6 || f == 7 || f == 8
def rdF (f w:Int):Int:=if hasRd f then w/128%32 else 0
def rs1F (f w:Int):Int:=if hasRs1 f then w/32768%32 else 0
def rs2F (f w:Int):Int:=if hasRs2 f then w/1048576%32 else 0
theorem nand_mask (w i n:Nat):w &&& ((2 ^ n-1)*2 ^ i)=w/2 ^ i%2 ^ n*2 ^ i:=by
 apply Nat.eq_of_testBit_eq
 intro j
 rw [Nat.testBit_and,Nat.testBit_mul_two_pow,Nat.testBit_mul_two_pow,Nat.testBit_two_pow_sub_one,Nat.testBit_mod_two_pow,Nat.testBit_div_two_pow]
 by_cases h:i≤j
 ·have e:j-i+i=j:=by omega
  simp [h,e]
  rw [Bool.and_comm]
 ·simp [h]
theorem nor_add (x y i:Nat)(h:x<2 ^ i):y*2 ^ i ||| x=y*2 ^ i+x:=by
 rw [Nat.mul_comm];exact (Nat.two_pow_add_eq_or_of_lt h y).symm
theorem nand7 (w:Nat):w &&& 127=w%128:=by
 have:=nand_mask w 0 7;simpa using this
theorem nand12 (w:Nat):w &&& 28672=w/4096%8*4096:=nand_mask w 12 3
theorem nand25 (w:Nat):w &&& 4261412864=w/33554432%128*33554432:=nand_mask w 25 7
theorem nand27 (w:Nat):w &&& 4160749568=w/134217728%32*134217728:=nand_mask w 27 5
theorem nandM (w:Nat):w &&& 28799=w/4096%8*4096+w%128:=by
 rw [show (28799:Nat)=28672 ||| 127 by decide,Nat.and_or_distrib_left,nand7,nand12,←nor_add _ _ 12 (by omega)]
theorem nandU (w:Nat):w &&& 4261441663=w/33554432%128*33554432+(w/4096%8*4096+w%128):=by
 rw [show (4261441663:Nat)=4261412864 ||| 28799 by decide,Nat.and_or_distrib_left,nandM,nand25,←nor_add _ _ 25 (by omega)]
theorem nandA (w:Nat):w &&& 4160778367=w/134217728%32*134217728+(w/4096%8*4096+w%128):=by
 rw [show (4160778367:Nat)=4160749568 ||| 28799 by decide,Nat.and_or_distrib_left,nandM,nand27,←nor_add _ _ 27 (by omega)]
theorem band1 (h0:0≤w)(h1:w<4294967296):band w 127=w%128:=by
 unfold band;rw [show (127:Int).toNat=127 from rfl,nand7];omega
theorem bandM (h0:0≤w)(h1:w<4294967296):band w 28799=w%128+w/4096%8*4096:=by
 unfold band;rw [show (28799:Int).toNat=28799 from rfl,nandM];omega
theorem bandU (h0:0≤w)(h1:w<4294967296):band w 4261441663=w%128+w/4096%8*4096+w/33554432*33554432:=by
 unfold band;rw [show (4261441663:Int).toNat=4261441663 from rfl,nandU];omega
theorem bandA (h0:0≤w)(h1:w<4294967296):band w 4160778367=w%128+w/4096%8*4096+w/134217728*134217728:=by
 unfold band;rw [show (4160778367:Int).toNat=4160778367 from rfl,nandA];omega
theorem bandE (h0:0≤w)(h1:w<4294967296):band w 4294967295=w:=by
 unfold band;rw [show (4294967295:Int).toNat=2 ^ 32-1 from rfl,Nat.and_two_pow_sub_one_eq_mod];omega
def part (f w:Int):Int:=
 if f=1∨f=2 then w%128 else if f=3∨f=5∨f=6 then w%128+w/4096%8*4096 else if f=4∨f=7 then w%128+w/4096%8*4096+w/33554432*33554432
 else if f=8 then w%128+w/4096%8*4096+w/134217728*134217728 else if f=9 then w else 0
theorem band_part {f:Int}(h0:0≤w)(h1:w<4294967296):band w (mask f)=part f w:=by
 unfold mask part
 split
 ·exact band1 h0 h1
 split
 ·exact bandM h0 h1
 split
 ·exact bandU h0 h1
 split
 ·exact bandA h0 h1
 split
 ·exact bandE h0 h1
 ·simp [band]
theorem frm_bd (k:Int):0≤frm k∧frm k≤9:=by
 unfold frm;repeat' split
 all_goals omega
theorem raw_of {up:Int}(h1:w%128=lo)(h2:w/4096%8=mi)(h3:w/33554432=up):raw w=rawOf w lo mi up:=by subst h1 h2 h3;rfl
theorem raw_of1 (h1:w%128=lo):raw w=rawOf w lo (w/4096%8) (w/33554432):=by subst h1;rfl
theorem raw_of2 (h1:w%128=lo)(h2:w/4096%8=mi):raw w=rawOf w lo mi (w/33554432):=by subst h1 h2;rfl
theorem t1 {T:Int}(h:w%128=T)(e:∀a b,rawOf w T a b=k):raw w=k:=by rw [raw_of1 h];exact e _ _
theorem t2 {T:Int}(h:w%128+w/4096%8*4096=T)(e:∀b,rawOf w (T%128) (T/4096%8) b=k):raw w=k:=by
 rw [raw_of2 (lo:=T%128) (mi:=T/4096%8) (by omega) (by omega)];exact e _
theorem t3 {T:Int}(h:w%128+w/4096%8*4096+w/33554432*33554432=T)(e:rawOf w (T%128) (T/4096%8) (T/33554432)=k):raw w=k:=by
 rw [raw_of (lo:=T%128) (mi:=T/4096%8) (up:=T/33554432) (by omega) (by omega) (by omega)];exact e
theorem t4 {T:Int}(h:w%128+w/4096%8*4096+w/134217728*134217728=T)(e:∀b,b/4=T/134217728→rawOf w (T%128) (T/4096%8) b=k):raw w=k:=by
 rw [raw_of2 (lo:=T%128) (mi:=T/4096%8) (by omega) (by omega)];exact e _ (by omega)
theorem t5 {T:Int}(h:w=T)(e:raw T=k):raw w=k:=by rw [h];exact e
theorem told_raw (h0:0≤w)(h1:w<4294967296)(hk:1≤k)(hk':k≤59)(h:part (frm k) w=tbits k):raw w=k:=by
 have hd:(k=1∨k=2∨k=3)∨(k=4∨k=5∨k=6∨k=7∨k=8∨k=9∨k=10∨k=11∨k=12∨k=13∨k=14∨k=15∨k=16∨k=17∨k=18∨k=19∨k=20∨k=21∨k=22∨k=23∨k=24∨k=57)∨(k=25∨k=26∨k=27∨k=28∨k=29∨k=30∨k=31∨k=32∨k=33∨k=34∨k=35∨k=36∨k=37∨k=38∨k=39∨k=40∨k=41∨k=42∨k=43∨k=44∨k=45)∨(k=46∨k=47∨k=48∨k=49∨k=50∨k=51∨k=52∨k=53∨k=54∨k=55∨k=56)∨(k=58∨k=59):=by omega
 rcases hd with hd|hd|hd|hd|hd
 ·rcases hd with rfl|rfl|rfl<;>exact t1 h fun _ _=>rfl
 ·rcases hd with rfl|rfl|rfl|rfl|rfl|rfl|rfl|rfl|rfl|rfl|rfl|rfl|rfl|rfl|rfl|rfl|rfl|rfl|rfl|rfl|rfl|rfl<;>exact t2 h fun _=>rfl
 ·rcases hd with rfl|rfl|rfl|rfl|rfl|rfl|rfl|rfl|rfl|rfl|rfl|rfl|rfl|rfl|rfl|rfl|rfl|rfl|rfl|rfl|rfl<;>exact t3 h rfl
 ·rcases hd with rfl|rfl|rfl|rfl|rfl|rfl|rfl|rfl|rfl|rfl|rfl<;>exact t4 h fun b hb=>by show pk (b/4) lA=_;rw [hb];rfl
 ·rcases hd with rfl|rfl<;>exact t5 h (by decide)
theorem pk_cases {n:Int}{P:Int→Prop}:(l:List (Int×Int))→(h0:P 0)→(∀x∈l,n=x.1→P x.2)→P (pk n l)
 | [],h0,_=>h0
 | (a,o)::r,h0,h=>by
  unfold pk
  split
  ·exact h (a,o) (by simp) ‹_›
  ·exact pk_cases r h0 fun x hx=>h x (by simp [hx])
def sp1 (lo:Int):Int:=if lo=55 then 1 else if lo=23 then 2 else if lo=111 then 3 else if lo=103 then 4 else if lo=99 then 5 else if lo=3 then 11 else if lo=35 then 16 else if lo=19 then 19 else if lo=51 then 28 else if lo=47 then 46 else if lo=15 then 57 else if lo=115 then 58 else 0
def sp2 (lo:Int):Int:=if lo=55 then 1 else if lo=23 then 2 else if lo=111 then 3 else if lo=103 then 4 else if lo=99 then 10 else if lo=3 then 15 else if lo=35 then 18 else if lo=19 then 27 else if lo=51 then 45 else if lo=47 then 56 else if lo=15 then 57 else if lo=115 then 59 else -1
def Q (w k:Int):Prop:=k≠0→part (frm k) w=tbits k∧1≤k∧k≤59∧sp1 (w%128)≤k∧k≤sp2 (w%128)
theorem Q0 (w:Int):Q w 0:=fun h=>absurd rfl h
theorem q_ {L:Int}(hl:w%128=L)(hp:part (frm k) w=tbits k)(hb:1≤k∧k≤59∧sp1 L≤k∧k≤sp2 L):Q w k:=fun _=>by subst hl;exact ⟨hp,hb⟩
theorem qM {L M:Int}(hl:w%128=L)(hm:w/4096%8=M)(f:∀v,part (frm k) v=v%128+v/4096%8*4096)(e:L+M*4096=tbits k)(hb:1≤k∧k≤59∧sp1 L≤k∧k≤sp2 L):Q w k:=
 q_ hl (by rw [f,hl,hm];exact e) hb
theorem qU {L M U:Int}(hl:w%128=L)(hm:w/4096%8=M)(hu:w/33554432=U)(f:∀v,part (frm k) v=v%128+v/4096%8*4096+v/33554432*33554432)(e:L+M*4096+U*33554432=tbits k)(hb:1≤k∧k≤59∧sp1 L≤k∧k≤sp2 L):Q w k:=
 q_ hl (by rw [f,hl,hm,hu];exact e) hb
theorem qA {L M U:Int}(hl:w%128=L)(hm:w/4096%8=M)(hu:w/33554432/4=U)(f:∀v,part (frm k) v=v%128+v/4096%8*4096+v/134217728*134217728)(e:L+M*4096+U*134217728=tbits k)(hb:1≤k∧k≤59∧sp1 L≤k∧k≤sp2 L):Q w k:=
 q_ hl (by rw [f,hl,hm,show w/134217728=U by omega];exact e) hb
theorem raw_told (h0:0≤w)(h1:w<4294967296):Q w (raw w):=by
 unfold raw rawOf
 by_cases hl:w%128=55
 ·rw [if_pos hl]
  exact q_ hl hl (by decide)
 rw [if_neg hl];clear hl
 by_cases hl:w%128=23
 ·rw [if_pos hl]
  exact q_ hl hl (by decide)
 rw [if_neg hl];clear hl
 by_cases hl:w%128=111
 ·rw [if_pos hl]
  exact q_ hl hl (by decide)
 rw [if_neg hl];clear hl
 by_cases hl:w%128=103
 ·rw [if_pos hl]
  refine pk_cases [(0,4)] (Q0 w) fun x hx hn=>?_
  simp only [List.mem_cons,List.not_mem_nil,or_false] at hx
  subst hx
  exact qM hl hn (fun _=>rfl) rfl (by decide)
 rw [if_neg hl];clear hl
 by_cases hl:w%128=99
 ·rw [if_pos hl]
  refine pk_cases lB (Q0 w) fun x hx hn=>?_
  simp only [lB,List.mem_cons,List.not_mem_nil,or_false] at hx
  rcases hx with rfl|rfl|rfl|rfl|rfl|rfl<;>exact qM hl hn (fun _=>rfl) rfl (by decide)
 rw [if_neg hl];clear hl
 by_cases hl:w%128=3
 ·rw [if_pos hl]
  refine pk_cases lL (Q0 w) fun x hx hn=>?_
  simp only [lL,List.mem_cons,List.not_mem_nil,or_false] at hx
  rcases hx with rfl|rfl|rfl|rfl|rfl<;>exact qM hl hn (fun _=>rfl) rfl (by decide)
 rw [if_neg hl];clear hl
 by_cases hl:w%128=35
 ·rw [if_pos hl]
  refine pk_cases lS (Q0 w) fun x hx hn=>?_
  simp only [lS,List.mem_cons,List.not_mem_nil,or_false] at hx
  rcases hx with rfl|rfl|rfl<;>exact qM hl hn (fun _=>rfl) rfl (by decide)
 rw [if_neg hl];clear hl
 by_cases hl:w%128=19
 ·rw [if_pos hl]
  by_cases hm:w/4096%8=1∨w/4096%8=5
  ·rw [if_pos hm]
   refine pk_cases lH (Q0 w) fun x hx hn=>?_
   simp only [lH,List.mem_cons,List.not_mem_nil,or_false] at hx
   rcases hx with rfl|rfl|rfl
   ·exact qU (M:=1) (U:=0) hl (by simp only at hn;omega) (by simp only at hn;omega) (fun _=>rfl) rfl (by decide)
   ·exact qU (M:=5) (U:=0) hl (by simp only at hn;omega) (by simp only at hn;omega) (fun _=>rfl) rfl (by decide)
   ·exact qU (M:=5) (U:=32) hl (by simp only at hn;omega) (by simp only at hn;omega) (fun _=>rfl) rfl (by decide)
  ·rw [if_neg hm]
   refine pk_cases lI (Q0 w) fun x hx hn=>?_
   simp only [lI,List.mem_cons,List.not_mem_nil,or_false] at hx
   rcases hx with rfl|rfl|rfl|rfl|rfl|rfl<;>exact qM hl hn (fun _=>rfl) rfl (by decide)
 rw [if_neg hl];clear hl
 by_cases hl:w%128=51
 ·rw [if_pos hl]
  by_cases hu:w/33554432=0
  ·rw [if_pos hu]
   refine pk_cases lR0 (Q0 w) fun x hx hn=>?_
   simp only [lR0,List.mem_cons,List.not_mem_nil,or_false] at hx
   rcases hx with rfl|rfl|rfl|rfl|rfl|rfl|rfl|rfl<;>exact qU hl hn hu (fun _=>rfl) rfl (by decide)
  rw [if_neg hu];clear hu
  by_cases hu:w/33554432=32
  ·rw [if_pos hu]
   refine pk_cases lR32 (Q0 w) fun x hx hn=>?_
   simp only [lR32,List.mem_cons,List.not_mem_nil,or_false] at hx
   rcases hx with rfl|rfl<;>exact qU hl hn hu (fun _=>rfl) rfl (by decide)
  rw [if_neg hu];clear hu
  by_cases hu:w/33554432=1
  ·rw [if_pos hu]
   refine pk_cases lR1 (Q0 w) fun x hx hn=>?_
   simp only [lR1,List.mem_cons,List.not_mem_nil,or_false] at hx
   rcases hx with rfl|rfl|rfl|rfl|rfl|rfl|rfl|rfl<;>exact qU hl hn hu (fun _=>rfl) rfl (by decide)
  rw [if_neg hu];clear hu
  exact Q0 w
 rw [if_neg hl];clear hl
 by_cases hl:w%128=47
 ·rw [if_pos hl]
  by_cases hm:w/4096%8=2
  ·rw [if_pos hm]
   refine pk_cases lA (Q0 w) fun x hx hn=>?_
   simp only [lA,List.mem_cons,List.not_mem_nil,or_false] at hx
   rcases hx with rfl|rfl|rfl|rfl|rfl|rfl|rfl|rfl|rfl|rfl|rfl<;>exact qA hl hm hn (fun _=>rfl) rfl (by decide)
  rw [if_neg hm];exact Q0 w
 rw [if_neg hl];clear hl
 by_cases hl:w%128=15
 ·rw [if_pos hl]
  refine pk_cases [(0,57)] (Q0 w) fun x hx hn=>?_
  simp only [List.mem_cons,List.not_mem_nil,or_false] at hx
  subst hx
  exact qM hl hn (fun _=>rfl) rfl (by decide)
 rw [if_neg hl];clear hl
 by_cases hl:w%128=115
 ·rw [if_pos hl]
  refine pk_cases lE (Q0 w) fun x hx hn=>?_
  simp only [lE,List.mem_cons,List.not_mem_nil,or_false] at hx
  rcases hx with rfl|rfl<;>exact q_ hl hn (by decide)
 rw [if_neg hl];clear hl
 exact Q0 w
theorem told_iff (h0:0≤w)(h1:w<4294967296)(hk:1≤k)(hk':k≤59):band w (mask (frm k))=tbits k↔raw w=k:=by
 rw [band_part h0 h1]
 refine ⟨told_raw h0 h1 hk hk',fun h=>?_⟩
 have:=(raw_told h0 h1 (by omega)).1
 rwa [h] at this
theorem raw_bd (h0:0≤w)(h1:w<4294967296):0≤raw w∧raw w≤59:=by
 by_cases h:raw w=0
 ·omega
 ·have:=raw_told h0 h1 h;omega
end Go.Proofs.YtchllaeembmioaaGreatDoor.Dc
namespace Go.Proofs.YtchllaeembmioaaGreatDoor.Hh
open Mm Wd

def opn (op:Int):Int:=if op=19 then 28 else if op=20 then 31 else if op=21 then 32 else if op=22 then 33 else if op=23 then 36 else if op=24 then 37 else if op=25 then 30 else if op=26 then 34 else 35
structure Ev where
 h:Hv
 m:List UInt8
 out:List Int
 sto:List (Int×Int)
 res:Option Int
def efLoad (h:Hv) (l:List UInt8) (op at':Int):Ev:=if ldOk l op at'=true then ⟨h,l,[],[],some (ldV l op at')⟩ else ⟨h.trap 3,l,[],[],none⟩
def efStore (h:Hv) (l:List UInt8) (op at' b:Int):Ev:=if stOk l op at'=true then ⟨h,stL l op at' b,[],[(at',(ssz op:Nat))],none⟩ else ⟨h.trap 4,l,[],[],none⟩
def efLr (h:Hv) (l:List UInt8) (a:Int):Ev:=if ldOk l 13 a=true then ⟨h.hold true a,l,[],[],some (ldV l 13 a)⟩ else ⟨h.trap 3,l,[],[],none⟩
def efSc (h:Hv) (l:List UInt8) (a b:Int):Ev:=if ldOk l 13 a=true then (if h.held=true∧h.heldAt=a then ⟨h.hold false 0,stL l 18 a b,[],[(a,4)],some 0⟩ else ⟨h.hold false 0,l,[],[],some 1⟩) else ⟨h.trap 4,l,[],[],none⟩
def efAmo (h:Hv) (l:List UInt8) (op a b:Int):Ev:=if ldOk l 13 a=true then ⟨h,stL l 18 a (amo op (ldV l 13 a) b),[],[(a,4)],some (ldV l 13 a)⟩ else ⟨h.trap 4,l,[],[],none⟩
def efAtom (h:Hv) (l:List UInt8) (op a b:Int):Ev:=if op=46 then efLr h l a else if op=47 then efSc h l a b else efAmo h l op a b
def efCall (h:Hv) (l:List UInt8):Ev:=if rg h 17=0 then ⟨h.halt,l,[],[],none⟩ else if rg h 17=1 then ⟨h,l,[rg h 10],[],none⟩ else ⟨h.trap 5,l,[],[],none⟩
def eff (h:Hv) (l:List UInt8) (op a b n:Int):Ev:=
 if op=1 then ⟨h,l,[],[],some n⟩ else if op=2 then ⟨h,l,[],[],some (lo (h.pc+n))⟩ else if op=3∨op=4 then ⟨h,l,[],[],some (lo (h.pc+4))⟩
 else if 11≤op∧op≤15 then efLoad h l op (lo (a+n)) else if 16≤op∧op≤18 then efStore h l op (lo (a+n)) b
 else if 19≤op∧op≤27 then ⟨h,l,[],[],some (alu (opn op) a n)⟩ else if 28≤op∧op≤45 then ⟨h,l,[],[],some (alu op a b)⟩
 else if 46≤op∧op≤56 then efAtom h l op a b else if op=58 then efCall h l else if op=59 then ⟨h.trap 6,l,[],[],none⟩ else ⟨h,l,[],[],none⟩
def nxt (h:Hv) (op a b n:Int):Int:=if op=4 then lo (a+n)-lo (a+n)%2 else if op=3∨holds op a b=true then lo (h.pc+n) else lo (h.pc+4)
structure Sv where
 h:Hv
 m:List UInt8
 out:List Int
 sto:List (Int×Int)
def Hv.put (h:Hv) (rd:Nat):Option Int→Hv
 | some x=>h.set rd x
 | none=>h
def Hv.on (h:Hv) (x:Int):Hv:=if h.state=0 then h.go x else h
def done (e:Ev) (rd:Nat) (nx:Int):Sv:=⟨(e.h.put rd e.res).on nx,e.m,e.out,e.sto⟩
def ins (h:Hv) (l:List UInt8) (op rd r1 r2 im:Int):Sv:=
 done (eff h l op (rg h r1.toNat) (rg h r2.toNat) (lo im)) rd.toNat (nxt h op (rg h r1.toNat) (rg h r2.toNat) (lo im))
def insW (h:Hv) (l:List UInt8) (x:Int):Sv:=
 if Dc.dop x=0 then ⟨h.trap 2,l,[],[]⟩ else ins h l (Dc.dop x) (Dc.rdF (Dc.frm (Dc.dop x)) x) (Dc.rs1F (Dc.frm (Dc.dop x)) x) (Dc.rs2F (Dc.frm (Dc.dop x)) x) (Dc.immF (Dc.frm (Dc.dop x)) x)
def stp (h:Hv) (l:List UInt8):Sv:=if ldOk l 13 h.pc=true then insW h l (ldV l 13 h.pc) else ⟨h.trap 1,l,[],[]⟩
def may (h:Hv):Bool:=decide (rg h 0=0∧(h.held=false→h.heldAt=0)∧(((h.state=0∨h.state=1)∧h.cause=0)∨(h.state=2∧1≤h.cause∧h.cause≤6)))
end Go.Proofs.YtchllaeembmioaaGreatDoor.Hh
namespace Go.Proofs.YtchllaeembmioaaGreatDoor.Hc
open Go.ChangeShapes Go.WideShapes Go.ChangeAt Go.RowKit Mm Hh

structure Cv where
 h:Hv
 m:Value
 out:Value
 sto:Value
def cA (c:Cv):Array Value:=(hL c.h++[c.m,c.out,c.sto]).toArray
theorem cA_size {c:Cv}(o:c.h.Ok):(cA c).size=40:=by simp [cA,hL_len o]
theorem cA_get {c:Cv}(o:c.h.Ok){i:Nat}(hi:i<37):(cA c)[i]?=(hL c.h)[i]?:=by
 have:=hL_len o
 unfold cA
 rw [List.getElem?_toArray,List.getElem?_append_left (by omega)]
theorem cA_fld {c:Cv}(o:c.h.Ok)(j:Nat):(cA c)[37+j]?=[c.m,c.out,c.sto][j]?:=by
 unfold cA
 rw [List.getElem?_toArray,List.getElem?_append_right (by simp [hL_len o])]
 simp [hL_len o]
theorem cA_set {c:Cv}(o:c.h.Ok){i:Nat}(hi:i<37){v:Value}{h':Hv}(e:(hL c.h).set i v=hL h'):(cA c).setIfInBounds i v=cA { c with h:=h' }:=by
 have:=hL_len o
 unfold cA
 simp only [List.setIfInBounds_toArray]
 rw [List.set_append_left _ _ (by omega),e]
def Own (w:World) (base:Nat) (v:Value) (l:List UInt8):Prop:=
 (v=.slice none 0 0∧l=[])∨∃k cap,v=.slice (some ⟨k,0,none⟩) l.length cap∧base≤k∧Row w k l
theorem Own.mem {w:World}{base:Nat}{v:Value}{l:List UInt8}(h:Own w base v l):∃ao cap,v=.slice ao l.length cap∧Mem w ao l.length l:=by
 rcases h with ⟨rfl,rfl⟩|⟨k,cap,rfl,_,R⟩
 ·exact ⟨none,0,rfl,Mem.none w⟩
 ·exact ⟨some ⟨k,0,none⟩,cap,rfl,R.mem⟩
def rgs (ss:List (Int×Int)):List Value:=ss.flatMap fun p=>[.int .u32 p.1,.int .u32 (Wd.lo (p.1+p.2))]
theorem rgs_snoc (ss:List (Int×Int))(p:Int×Int):rgs (ss++[p])=rgs ss++[.int .u32 p.1,.int .u32 (Wd.lo (p.1+p.2))]:=by
 simp [rgs]
structure Inv (w:World) (base g:Nat) (c:Cv) (l:List UInt8) (os:List Int) (ss:List (Int×Int)):Prop where
 ok:c.h.Ok
 bg:base≤g
 core:w.heap[g]?=some (.cells (cA c) 115 (0,0))
 mem:Own w 0 c.m l
 out:w.ownsRow base 42 1 c.out os.length (os.map (Value.int .u32))
 sto:w.ownsRow base 109 2 c.sto ss.length (rgs ss)
def In (w:World) (base g:Nat) (h:Hv) (l:List UInt8) (os:List Int) (ss:List (Int×Int)):Prop:=∃c:Cv,c.h=h∧Inv w base g c l os ss
theorem Own.to {w w':World}{base:Nat}{v:Value}{l:List UInt8}(h:Own w base v l)(e:∀(k:Nat) (o:Array Value) (f:Nat×Nat),w.heap[k]?=some (.cells o 5 f)→w'.heap[k]?=w.heap[k]?):Own w' base v l:=by
 rcases h with h|⟨k,cap,hv,hb,rest,hr⟩
 ·exact .inl h
 ·exact .inr ⟨k,cap,hv,hb,rest,(e k _ _ hr).trans hr⟩
theorem owns_to {w w':World}{base e n sz:Nat}{v:Value}{xs:List Value}(h:w.ownsRow base e sz v n xs)(q:∀(k:Nat) (o:Array Value) (f:Nat×Nat),w.heap[k]?=some (.cells o e f)→w'.heap[k]?=w.heap[k]?):w'.ownsRow base e sz v n xs:=by
 obtain ⟨h1,h2⟩:=h
 refine ⟨h1,?_⟩
 rcases h2 with h2|⟨g,cap,cur,hv,hb,hg,r⟩
 ·exact .inl h2
 ·exact .inr ⟨g,cap,cur,hv,hb,(q g _ _ hg).trans hg,r⟩
theorem ne_of_types {w:World}{k g a b:Nat}{o p:Array Value}{f f':Nat×Nat}(h:w.heap[k]?=some (.cells o a f))(h':w.heap[g]?=some (.cells p b f'))(hab:a≠b):k≠g:=by
 rintro rfl
 rw [h] at h'
 exact hab (by injection h' with h';injection h')
def Ch (g:Nat) (w w':World):Prop:=w.grownBy w' (some g)
theorem Ch.refl (g:Nat)(w:World):Ch g w w:=⟨rfl,rfl,rfl,Nat.le_refl _,fun _ _ _=>rfl⟩
theorem Ch.trans {g:Nat}{a b c:World}(h:Ch g a b)(k:Ch g b c):Ch g a c:=
 ⟨k.os.trans h.os,k.tape.trans h.tape,k.output.trans h.output,Nat.le_trans h.size k.size,fun i hi hn=>(k.block i (Nat.lt_of_lt_of_le hi h.size) hn).trans (h.block i hi hn)⟩
theorem Ch.setCell {g:Nat}{a w:World}(h:Ch g a w)(o:Nat)(v:Value):Ch g a (w.setCell ⟨g,o,none⟩ v):=
 h.trans ⟨rfl,rfl,rfl,by simp [World.setCell],fun k hk hn=>Below.heap_setCell _ _ _ _ (fun e=>hn (by rw [e]))⟩
theorem Ch.gr {g:Nat}{a b c:World}(h:Ch g a b)(k:Gr b c):Ch g a c:=
 h.trans ⟨k.os,k.tape,k.output,k.size,fun i hi _=>k.block i hi⟩
theorem Ch.below {g base:Nat}{w w':World}(h:Ch g w w')(hg:base≤g)(hb:base≤w.heap.size):Below base w w':=
 (Below.refl base w).grown h hb (fun k e=>by injection e with e;omega)
theorem Inv.toM {w w':World}{base g:Nat}{c c':Cv}{l l':List UInt8}{os:List Int}{ss:List (Int×Int)}(I:Inv w base g c l os ss)(q:Ch g w w')(hc:w'.heap[g]?=some (.cells (cA c') 115 (0,0)))
  (ok:c'.h.Ok)(em:Own w' 0 c'.m l')(eo:c'.out=c.out)(es:c'.sto=c.sto):Inv w' base g c' l' os ss:=by
 have st:∀t:Nat,t≠115→∀(k:Nat) (o:Array Value) (f:Nat×Nat),w.heap[k]?=some (.cells o t f)→w'.heap[k]?=w.heap[k]?:=fun t ht k o f hk=>
  q.block k (Array.getElem?_eq_some_iff.1 hk).1 (fun e=>ne_of_types hk I.core ht (by injection e))
 refine ⟨ok,I.bg,hc,em,?_,?_⟩
 ·rw [eo];exact owns_to I.out (st _ (by decide))
 ·rw [es];exact owns_to I.sto (st _ (by decide))
theorem Inv.to {w w':World}{base g:Nat}{c c':Cv}{l:List UInt8}{os:List Int}{ss:List (Int×Int)}(I:Inv w base g c l os ss)(q:Ch g w w')(hc:w'.heap[g]?=some (.cells (cA c') 115 (0,0)))
  (ok:c'.h.Ok)(em:c'.m=c.m)(eo:c'.out=c.out)(es:c'.sto=c.sto):Inv w' base g c' l os ss:=by
 have st:∀t:Nat,t≠115→∀(k:Nat) (o:Array Value) (f:Nat×Nat),w.heap[k]?=some (.cells o t f)→w'.heap[k]?=w.heap[k]?:=fun t ht k o f hk=>
  q.block k (Array.getElem?_eq_some_iff.1 hk).1 (fun e=>ne_of_types hk I.core ht (by injection e))
 exact I.toM q hc ok (by rw [em];exact I.mem.to (st _ (by decide))) eo es
theorem Inv.of {w w':World}{base g:Nat}{c:Cv}{l:List UInt8}{os:List Int}{ss:List (Int×Int)}(I:Inv w base g c l os ss)(q:Gr w w'):Inv w' base g c l os ss:=
 I.to ((Ch.refl g w).gr q) ((q.block g (Array.getElem?_eq_some_iff.1 I.core).1).trans I.core) I.ok rfl rfl rfl
theorem In.of {w w':World}{base g:Nat}{h:Hv}{l:List UInt8}{os:List Int}{ss:List (Int×Int)}(I:In w base g h l os ss)(q:Gr w w'):In w' base g h l os ss:=by
 obtain ⟨c,e,I⟩:=I
 exact ⟨c,e,I.of q⟩
theorem Inv.lt {w:World}{base g:Nat}{c:Cv}{l:List UInt8}{os:List Int}{ss:List (Int×Int)}(I:Inv w base g c l os ss):g<w.heap.size:=(Array.getElem?_eq_some_iff.1 I.core).1
theorem Inv.hcell {w:World}{base g:Nat}{c:Cv}{l:List UInt8}{os:List Int}{ss:List (Int×Int)}(I:Inv w base g c l os ss){i:Nat}(hi:i<37):w.cell? ⟨g,i,none⟩=(hL c.h)[i]?:=
 (cell_of_row _ _ _ _ _ _ I.core).trans (cA_get I.ok hi)
theorem Inv.fcell {w:World}{base g:Nat}{c:Cv}{l:List UInt8}{os:List Int}{ss:List (Int×Int)}(I:Inv w base g c l os ss)(j:Nat):w.cell? ⟨g,37+j,none⟩=[c.m,c.out,c.sto][j]?:=
 (cell_of_row _ _ _ _ _ _ I.core).trans (cA_fld I.ok j)
theorem Inv.fz {w:World}{base g:Nat}{c:Cv}{l:List UInt8}{os:List Int}{ss:List (Int×Int)}(I:Inv w base g c l os ss)(j:Nat):w.frozen? ⟨g,j,none⟩=false:=frozen_of_row _ _ j _ _ I.core
theorem Inv.set {w:World}{base g:Nat}{c:Cv}{l:List UInt8}{os:List Int}{ss:List (Int×Int)}(I:Inv w base g c l os ss){i:Nat}(hi:i<37){v:Value}{h':Hv}(e:(hL c.h).set i v=hL h')(ok:h'.Ok):
  Inv (w.setCell ⟨g,i,none⟩ v) base g { c with h:=h' } l os ss:=
 I.to ((Ch.refl g w).setCell i v) (by rw [heap_setCell_same _ _ _ _ _ _ I.core,cA_set I.ok hi e]) ok rfl rfl rfl
theorem Inv.inn {w:World}{base g:Nat}{c:Cv}{l:List UInt8}{os:List Int}{ss:List (Int×Int)}(I:Inv w base g c l os ss):In w base g c.h l os ss:=⟨c,rfl,I⟩
theorem Inv.base_le {w:World}{base g:Nat}{c:Cv}{l:List UInt8}{os:List Int}{ss:List (Int×Int)}(I:Inv w base g c l os ss):base≤w.heap.size:=Nat.le_trans I.bg (Nat.le_of_lt I.lt)
structure Fr (base:Nat) (w w':World):Prop where
 below:Below base w w'
 keep:∀(k:Nat) (o:Array Value) (t:Nat) (f:Nat×Nat),w.heap[k]?=some (.cells o t f)→t≠115→t≠42→t≠109→w'.heap[k]?=w.heap[k]?
theorem Fr.trans {base:Nat}{a b c:World}(h:Fr base a b)(q:Fr base b c):Fr base a c:=
 ⟨h.below.trans q.below,fun k o t f e n1 n2 n3=>by
  have e1:=h.keep k o t f e n1 n2 n3
  exact (q.keep k o t f (e1.trans e) n1 n2 n3).trans e1⟩
theorem Fr.ofGr {base:Nat}{w w':World}(h:Gr w w')(hb:base≤w.heap.size):Fr base w w':=
 ⟨Below.mono h hb,fun k o t f e _ _ _=>h.block k (Array.getElem?_eq_some_iff.1 e).1⟩
theorem In.below {w w':World}{base g:Nat}{h:Hv}{l:List UInt8}{os:List Int}{ss:List (Int×Int)}(I:In w base g h l os ss)(q:Ch g w w'):Fr base w w':=by
 obtain ⟨c,_,I⟩:=I
 exact ⟨q.below I.bg I.base_le,fun k o t f e n1 _ _=>q.block k (Array.getElem?_eq_some_iff.1 e).1 (fun q=>ne_of_types e I.core n1 (by injection q))⟩
end Go.Proofs.YtchllaeembmioaaGreatDoor.Hc
namespace Go.Proofs.YtchllaeembmioaaGreatDoor.Mm
open Go.ChangeShapes Go.WideShapes Go.ChangeAt Go.RowKit

variable {ao : Option Addr} {n : Nat} {l : List UInt8} {w : World}
theorem loadSize_any (op:Int)(w:World):Calls Tryz.prog 103 #[.int .i64 op] w fun e w'=>e=.returned (.int .u32 (lsz op:Nat))∧w'=w:=by
 go_enter Tryz.func103,Tryz.ntmps103
 go_wp2
 all_goals
  go_ret
  refine ⟨ret_int ?_,rfl⟩
  simp only [beq_iff_eq,beq_eq_false_iff_ne,ne_eq] at *
  unfold lsz
  repeat' split
  all_goals omega
theorem storeSize_any (op:Int)(w:World):Calls Tryz.prog 148 #[.int .i64 op] w fun e w'=>e=.returned (.int .u32 (ssz op:Nat))∧w'=w:=by
 go_enter Tryz.func148,Tryz.ntmps148
 go_wp2
 all_goals
  go_ret
  refine ⟨ret_int ?_,rfl⟩
  simp only [beq_iff_eq,beq_eq_false_iff_ne,ne_eq] at *
  unfold ssz
  repeat' split
  all_goals omega
theorem there_any (ao:Option Addr)(n cap:Nat)(s:Nat)(a:Int)(w:World)(hn:n≤140737488351232)(hs:s≤4)(h0:0≤a)(h1:a<4294967296):
  Calls Tryz.prog 104 #[.slice ao n cap,.int .u32 (s:Nat),.int .u32 a] w fun e w'=>e=.returned (.bool (thr n s a))∧w'=w:=by
 by_cases hs0:s=0
 ·subst hs0
  go_enter Tryz.func104,Tryz.ntmps104
  go_wp2
  go_ret
  exact ⟨ret_bool (thr_f (by omega)),rfl⟩
 by_cases hm:a%(s:Int)=0
 ·by_cases hl:a+s≤n
  ·go_enter Tryz.func104,Tryz.ntmps104
   go_wp2
   go_ret
   exact ⟨ret_bool (thr_t (by omega) hm hl),rfl⟩
  ·go_enter Tryz.func104,Tryz.ntmps104
   go_wp2
   go_ret
   exact ⟨ret_bool (thr_f (by omega)),rfl⟩
 ·go_enter Tryz.func104,Tryz.ntmps104
  go_wp2
  go_ret
  exact ⟨ret_bool (thr_f (by omega)),rfl⟩
theorem widened_any (op x : Int) (w : World) (h0 : 0 ≤ x) (h1 : x < 4294967296) (h8 : op = 11 → x < 256) (h16 : op = 12 → x < 65536) :
    Calls Tryz.prog 105 #[.int .i64 op, .int .u32 x] w fun e w' => e = .returned (.int .u32 (wide op x)) ∧ w' = w := by
  go_enter Tryz.func105, Tryz.ntmps105
  go_wp2
  all_goals
    go_ret
    refine ⟨ret_int ?_, rfl⟩
    simp only [beq_iff_eq, beq_eq_false_iff_ne, ne_eq] at *
    unfold wide
    first
      | (have hq : op = 11 := by assumption
         rw [wrap_i8 x h0 (h8 hq)]; simp [hq])
      | (have hq : op = 12 := by assumption
         rw [wrap_i16 x h0 (h16 hq)]; simp [hq])
      | (have hq : ¬ op = 11 := by assumption
         have hr : ¬ op = 12 := by assumption
         simp [hq, hr])
theorem Load_yes (b o n cap:Nat)(l:List UInt8)(op:Int)(a:Nat)(w:World)(hn:n≤140737488351232)(hl:l.length=n)(ha:a<4294967296)
  (hc:∀t,t<n→w.cell? ⟨b,o+t,none⟩=some (.int .u8 (bv l t)))(hok:thr n (lsz op) (a:Int)=true):
  Calls Tryz.prog 85 #[.slice (some ⟨b,o,none⟩) n cap,.int .i64 op,.int .u32 a] w fun e w'=>e=.returned (.tuple #[.int .u32 (wide op (raw l a (lsz op))),.bool true])∧w'=w:=by
 have hs:=lsz_le op
 have hk:=hok
 simp only [thr,decide_eq_true_eq] at hk
 obtain ⟨k0,k1,k2⟩:=hk
 have hroom:=lsz_room k1 ha k0
 go_enter Tryz.func85,Tryz.ntmps85
 go_wp2_with (first|(go_at_call 103;refine (loadSize_any _ _).mono ?_;rintro e w' ⟨rfl,rfl⟩)|(go_at_call 104;refine (there_any _ _ _ _ _ _ hn hs (by omega) (by omega)).mono ?_;rintro e w' ⟨rfl,rfl⟩))
 go_loop [9,19] (fun x i=>∃k:Nat,k≤lsz op∧i=.int .u32 k∧x=.int .u32 (raw l a k)) (fun _ i=>lsz op-(intOf i).toNat)
 case atStart=>exact ⟨0,Nat.zero_le _,rfl,rfl⟩
 case round=>
  obtain ⟨k,hk,rfl,rfl⟩:=hrel
  have rb:=raw_bd l a k
  have bb:=bv_bd l (a+k)
  by_cases hlt:k<lsz op
  ·have hck:=hc (a+k) (by omega)
   clear hc
   have hk4:k<4:=by omega
   have hw:(a+k)%4294967296=a+k:=by omega
   have HR:Hid (bits .or .u32 (raw l a k) (bv l (a+k)*2 ^ (8*k)%4294967296)=raw l a (k+1)):=or_byte _ _ k hk4 rb.1 rb.2 bb.1 bb.2
   go_wp2
   go_round
   case rel=>exact ⟨k+1,by omega,by go_num,by rw [HR.out]⟩
   case measure=>simp [intOf];omega
  ·obtain rfl:k=lsz op:=by omega
   have rx:=raw_cap l a op
   have HX:Hid (wide op (raw l a (lsz op))=wide op (raw l a (lsz op))):=rfl
   go_wp2_with (go_at_call 105;refine (widened_any _ _ _ rb.1 rx.1 rx.2.1 rx.2.2).mono ?_;rintro e w' ⟨rfl,rfl⟩)
   go_ret2
   exact ⟨rfl,rfl⟩
theorem Load_no (ao:Option Addr)(n cap:Nat)(op a:Int)(w:World)(hn:n≤140737488351232)(h0:0≤a)(h1:a<4294967296)(hok:thr n (lsz op) a=false):
  Calls Tryz.prog 85 #[.slice ao n cap,.int .i64 op,.int .u32 a] w fun e w'=>e=.returned (.tuple #[.int .u32 0,.bool false])∧w'=w:=by
 have hs:=lsz_le op
 go_enter Tryz.func85,Tryz.ntmps85
 go_wp2_with (first|(go_at_call 103;refine (loadSize_any _ _).mono ?_;rintro e w' ⟨rfl,rfl⟩)|(go_at_call 104;refine (there_any _ _ _ _ _ _ hn hs (by omega) (by omega)).mono ?_;rintro e w' ⟨rfl,rfl⟩))
 go_ret2
 exact ⟨rfl,rfl⟩
theorem Load_any (cap:Nat)(op a:Int)(M:Mem w ao n l)(hn:n≤140737488351232)(h0:0≤a)(h1:a<4294967296):
  Calls Tryz.prog 85 #[.slice ao n cap,.int .i64 op,.int .u32 a] w fun e w'=>e=.returned (.tuple #[.int .u32 (ldV l op a),.bool (ldOk l op a)])∧w'=w:=by
 have hl:=M.len
 cases hok:thr n (lsz op) a with
 | false=>
  have e1:ldOk l op a=false:=by unfold ldOk;rw [hl];exact hok
  have e2:ldV l op a=0:=by unfold ldV;rw [e1];rfl
  rw [e1,e2]
  exact Load_no ao n cap op a w hn h0 h1 hok
 | true=>
  have e1:ldOk l op a=true:=by unfold ldOk;rw [hl];exact hok
  have e2:ldV l op a=wide op (raw l a.toNat (lsz op)):=by unfold ldV;rw [e1];rfl
  rw [e1,e2]
  obtain ⟨b,o,rfl,_,hc⟩:=M.spot (thr_pos hok h0)
  obtain ⟨a,rfl⟩:=Int.eq_ofNat_of_zero_le h0
  exact Load_yes b o n cap l op a w hn hl (by omega) hc hok
theorem Store_no (ao:Option Addr)(n cap:Nat)(op a x:Int)(w:World)(hn:n≤140737488351232)(h0:0≤a)(h1:a<4294967296)(hok:thr n (ssz op) a=false):
  Calls Tryz.prog 130 #[.slice ao n cap,.int .i64 op,.int .u32 a,.int .u32 x] w fun e w'=>e=.returned (.tuple #[.slice none 0 0,.bool false])∧w'=w:=by
 have hs:=ssz_le op
 go_enter Tryz.func130,Tryz.ntmps130
 go_wp2_with (first|(go_at_call 148;refine (storeSize_any _ _).mono ?_;rintro e w' ⟨rfl,rfl⟩)|(go_at_call 104;refine (there_any _ _ _ _ _ _ hn hs (by omega) (by omega)).mono ?_;rintro e w' ⟨rfl,rfl⟩))
 go_ret2
 exact ⟨rfl,rfl⟩
theorem Store_yes (b o n cap:Nat)(l:List UInt8)(op x:Int)(a:Nat)(w:World)(hn:n≤140737488351232)(hl:l.length=n)(ha:a<4294967296)(hb:b<w.heap.size)(hx0:0≤x)(hx1:x<4294967296)
  (hc:∀t,t<n→w.cell? ⟨b,o+t,none⟩=some (.int .u8 (bv l t)))(hok:thr n (ssz op) (a:Int)=true):
  Calls Tryz.prog 130 #[.slice (some ⟨b,o,none⟩) n cap,.int .i64 op,.int .u32 a,.int .u32 x] w fun e w'=>e=.returned (.tuple #[.slice (some ⟨w.heap.size,0,none⟩) n n,.bool true])∧Row w' w.heap.size (put l a x (ssz op))∧Gr w w':=by
 have hs:=ssz_le op
 have hk:=hok
 simp only [thr,decide_eq_true_eq] at hk
 obtain ⟨k0,k1,k2⟩:=hk
 have hroom:=ssz_room k1 ha k0
 obtain ⟨i0,hi,hz0,hz1,hz2⟩:=info_parts info5
 have HC:Hid (∀t,t<n→w.cell? ⟨b,o+t,none⟩=some (.int .u8 (bv l t))):=hc
 clear hc
 go_enter Tryz.func130,Tryz.ntmps130
 go_wp2_with (first
  | (go_at_call 148;refine (storeSize_any _ _).mono ?_;rintro e w' ⟨rfl,rfl⟩)
  | (go_at_call 104;refine (there_any _ _ _ _ _ _ hn hs (by omega) (by omega)).mono ?_;rintro e w' ⟨rfl,rfl⟩)
  | (at_make;refine wpList_make_full _ rfl _ _ 22 rfl _ 5 i0 (.int .u8 0) 1 Tryz.underlying22 hi hz0 hz1 _ _ _ _ n rfl rfl rfl rfl (by rw [hz2];omega) (by unfold maxLen;omega) (Nat.le_refl _) ?_;intro w0 hown0 hgrow0;obtain ⟨cur,hcl,hcg⟩:=made_row hown0;have B0:=(Gr.refl _).grown hgrow0 (fun k h=>by cases h);clear hown0 hgrow0)
  | (refine wpList_copy_splice rfl (.tmp 23) (.tmp 24) 22 22 rfl 5 Tryz.underlying22 size1 _ _ _ _ _ _ rfl rfl _ 0 cur 5 hcg (bc l) (by rw [bc_len,hl];simp) (fun _=>⟨rfl,_,rfl,bc_src hl (fun t ht=>(Gr.cell B0 _ (by exact hb)).trans (HC.out t ht))⟩) (by rw [bc_len,hl,hcl];omega) (bc_one l) _ _ B0 (Nat.le_refl _) ?_;intro w2 HG2 hB2))
 have R0:Row w2 w'.heap.size l:=⟨[],by rw [List.append_nil];have:=HG2.out;rwa [splice_all (by rw [bc_len,hl,hcl])] at this⟩
 clear HG2 hcg hcl B0 HC hi hz0 hz1 hz2
 go_loopw [27] (fun i wr=>∃k:Nat,k≤ssz op∧i=.int .u32 k∧Row wr w'.heap.size (put l a x k)∧Gr w' wr) (fun i _=>ssz op-(intOf i).toNat)
 case atStart=>exact ⟨0,Nat.zero_le _,rfl,R0,hB2⟩
 case round=>
  obtain ⟨k,hk,rfl,R,G⟩:=hrel
  by_cases hlt:k<ssz op
  ·have hp:=len_put l a x k
   have hck:=R.cell (t:=a+k) (by omega)
   have hfk:=R.frozen (a+k)
   have hw:(a+k)%4294967296=a+k:=by omega
   have RS:=R.set (t:=a+k) (by omega) (x/2 ^ (8*k)%256) (by omega) (by omega)
   rw [byte_eq x k hx0] at RS
   have HR:Hid (Row wr w'.heap.size (put l a x k)):=R
   have HG:Hid (Gr w' wr):=G
   have HS:Hid (Row (wr.setCell ⟨w'.heap.size,a+k,none⟩ (.int .u8 (x/256 ^ k%256))) w'.heap.size (put l a x (k+1))):=RS
   have HB:Hid (x/2 ^ (8*k)%256=x/256 ^ k%256):=byte_eq x k hx0
   clear R G RS R0 hB2 hp
   go_wp2
   go_roundw
   case rel=>exact ⟨k+1,by omega,by go_num,by have:=HS.out;rw [←HB.out] at this;exact this,HG.out.setCell (Nat.le_refl _) _⟩
   case measure=>simp [intOf];omega
  ·obtain rfl:k=ssz op:=by omega
   have HR:Hid (Row wr w'.heap.size (put l a x (ssz op))):=R
   have HG:Hid (Gr w' wr):=G
   clear R G R0 hB2
   go_wp2
   go_ret2
   exact ⟨rfl,HR.out,HG.out⟩
theorem Store_new (cap:Nat)(op a x:Int)(M:Mem w ao n l)(hn:n≤140737488351232)(h0:0≤a)(h1:a<4294967296)(hx0:0≤x)(hx1:x<4294967296):
  Calls Tryz.prog 130 #[.slice ao n cap,.int .i64 op,.int .u32 a,.int .u32 x] w fun e w'=>
   ∃ao' n' cap',e=.returned (.tuple #[.slice ao' n' cap',.bool (stOk l op a)])∧Mem w' ao' n' (stL l op a x)∧Gr w w'∧∀ad,ao'=some ad→w.heap.size≤ad.block:=by
 have hl:=M.len
 cases hok:thr n (ssz op) a with
 | false=>
  have e1:stOk l op a=false:=by unfold stOk;rw [hl];exact hok
  have e2:stL l op a x=[]:=by unfold stL;rw [e1];rfl
  rw [e1,e2]
  refine (Store_no ao n cap op a x w hn h0 h1 hok).mono ?_
  rintro e w' ⟨rfl,rfl⟩
  exact ⟨none,0,0,rfl,Mem.none _,Gr.refl _,fun ad h=>by cases h⟩
 | true=>
  have e1:stOk l op a=true:=by unfold stOk;rw [hl];exact hok
  have e2:stL l op a x=put l a.toNat x (ssz op):=by unfold stL;rw [e1];rfl
  rw [e1,e2]
  obtain ⟨b,o,rfl,hb,hc⟩:=M.spot (thr_pos hok h0)
  obtain ⟨a,rfl⟩:=Int.eq_ofNat_of_zero_le h0
  refine (Store_yes b o n cap l op x a w hn hl (by omega) hb hx0 hx1 hc hok).mono ?_
  rintro e w' ⟨rfl,R,G⟩
  refine ⟨_,_,_,rfl,?_,G,fun ad h=>by cases h;exact Nat.le_refl _⟩
  have:=R.mem
  rwa [len_put,hl] at this
theorem Store_any (cap:Nat)(op a x:Int)(M:Mem w ao n l)(hn:n≤140737488351232)(h0:0≤a)(h1:a<4294967296)(hx0:0≤x)(hx1:x<4294967296):
  Calls Tryz.prog 130 #[.slice ao n cap,.int .i64 op,.int .u32 a,.int .u32 x] w fun e w'=>
   ∃ao' n' cap',e=.returned (.tuple #[.slice ao' n' cap',.bool (stOk l op a)])∧Mem w' ao' n' (stL l op a x)∧Gr w w':=by
 refine (Store_new cap op a x M hn h0 h1 hx0 hx1).mono ?_
 rintro e w' ⟨a1,n1,c1,rfl,M1,G1,_⟩
 exact ⟨a1,n1,c1,rfl,M1,G1⟩
end Go.Proofs.YtchllaeembmioaaGreatDoor.Mm
