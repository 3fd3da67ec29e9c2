/-
  Dec, Hs, Hb, Mz: texts of ours that lie in one file.
-/
import Derived.Test.YtkdghgiajifbdaaDoorQ01
set_option linter.unusedVariables false
set_option linter.unusedSimpArgs false
set_option maxHeartbeats 8000000
set_option maxRecDepth 100000
namespace Go.Proofs.YtkdghgiajifbdaaDoor.Dc
open Wd

variable {w lo mi k : Int}
def pk (n:Int):List (Int×Int)→Int
 | []=>0
 | (a,o)::r=>if n=a then o else pk n r
def lB:List (Int×Int):=[(0,5),(1,6),(4,7),(5,8),(6,9),(7,10)]
def lL:List (Int×Int):=[(0,11),(1,12),(2,13),(4,14),(5,15)]
def lS:List (Int×Int):=[(0,16),(1,17),(2,18)]
def lH:List (Int×Int):=[(1,25),(5,26),(261,27)]
def lI:List (Int×Int):=[(0,19),(2,20),(3,21),(4,22),(6,23),(7,24)]
def lR0:List (Int×Int):=[(0,28),(1,30),(2,31),(3,32),(4,33),(5,34),(6,36),(7,37)]
def lR32:List (Int×Int):=[(0,29),(5,35)]
def lR1:List (Int×Int):=[(0,38),(1,39),(2,40),(3,41),(4,42),(5,43),(6,44),(7,45)]
def lA:List (Int×Int):=[(2,46),(3,47),(1,48),(0,49),(4,50),(12,51),(8,52),(16,53),(20,54),(24,55),(28,56)]
def lE:List (Int×Int):=[(115,58),(1048691,59)]
def rawOf (w lo mi up:Int):Int:=
 if lo=55 then 1 else if lo=23 then 2 else if lo=111 then 3
 else if lo=103 then pk mi [(0,4)] else if lo=99 then pk mi lB else if lo=3 then pk mi lL else if lo=35 then pk mi lS
 else if lo=19 then (if mi=1∨mi=5 then pk (8*up+mi) lH else pk mi lI)
 else if lo=51 then (if up=0 then pk mi lR0 else if up=32 then pk mi lR32 else if up=1 then pk mi lR1 else 0)
 else if lo=47 then (if mi=2 then pk (up/4) lA else 0)
 else if lo=15 then pk mi [(0,57)] else if lo=115 then pk w lE else 0
def raw (w:Int):Int:=rawOf w (w%128) (w/4096%8) (w/33554432)
def frm (k:Int):Int:=
 if k=1∨k=2 then 1 else if k=3 then 2 else if k=4 then 3 else if 5≤k∧k≤10 then 5 else if 11≤k∧k≤15 then 3
 else if 16≤k∧k≤18 then 6 else if 19≤k∧k≤24 then 3 else if 25≤k∧k≤27 then 4 else if 28≤k∧k≤45 then 7
 else if 46≤k∧k≤56 then 8 else if k=57 then 3 else if k=58∨k=59 then 9 else 0
def mask (f:Int):Int:=
 if f=1∨f=2 then 127 else if f=3∨f=5∨f=6 then 28799 else if f=4∨f=7 then 4261441663 else if f=8 then 4160778367 else if f=9 then 4294967295 else 0
def nth (l:List Int) (k:Int):Int:=l.getD k.toNat 0
def uppers:List Int:=[0,0,0,0,0,0,0,0,0,0,0,0,0,0,0,0,0,0,0,0,0,0,0,0,0,0,0,32,0,32,0,0,0,0,0,32,0,0,1,1,1,1,1,1,1,1,8,12,4,0,16,48,32,64,80,96,112,0,0,0]
def rowOf (op first low:Int) (mids:List Int):Int:=low+nth mids (op-first)*4096+nth uppers op*33554432
def tbits (k:Int):Int:=
 if k=1 then 55 else if k=2 then 23 else if k=3 then 111 else if k=4 then rowOf k 4 103 [0] else if 5≤k∧k≤10 then rowOf k 5 99 [0,1,4,5,6,7]
 else if 11≤k∧k≤15 then rowOf k 11 3 [0,1,2,4,5] else if 16≤k∧k≤18 then rowOf k 16 35 [0,1,2] else if 19≤k∧k≤24 then rowOf k 19 19 [0,2,3,4,6,7]
 else if 25≤k∧k≤27 then rowOf k 25 19 [1,5,5] else if 28≤k∧k≤37 then rowOf k 28 51 [0,0,1,2,3,4,5,5,6,7] else if 38≤k∧k≤45 then rowOf k 38 51 [0,1,2,3,4,5,6,7]
 else if 46≤k∧k≤56 then rowOf k k 47 [2] else if k=57 then rowOf k 57 15 [0] else if k=58 then 115 else if k=59 then 1048691 else 0
def dop (w:Int):Int:=if raw w=46∧w/1048576%32≠0 then 0 else raw w
def sgn (h n:Int):Int:=if n≥h then n-2*h else n
def immF (f w:Int):Int:=
 if f=1 then sg w-w%4096
 else if f=2 then sgn 1048576 (w/2147483648*1048576+w/4096%256*4096+w/1048576%2*2048+w/2097152%1024*2)
 else if f=3 then sgn 2048 (w/1048576)
 else if f=4 then w/1048576%32
 else if f=5 then sgn 4096 (w/2147483648*4096+w/128%2*2048+w/33554432%64*32+w/256%16*2)
 else if f=6 then sgn 2048 (w/33554432*32+w/128%32)
 else if f=8 then w/33554432%4 else 0
def hasRd (f:Int):Bool:=f == 1 || f == 2 || f == 3 || f == 4 || f == 7 || f == 8
def hasRs1 (f:Int):Bool:=f == 3 || f == 4 || f == 5 || f == 6 || f == 7 || f == 8
def hasRs2 (f:Int):Bool:=f == 5 || f == 6 || f == 7 || f == 8
def rdF (f w:Int):Int:=if hasRd f then w/128%32 else 0
def rs1F (f w:Int):Int:=if hasRs1 f then w/32768%32 else 0
def rs2F (f w:Int):Int:=if hasRs2 f then w/1048576%32 else 0
theorem nand_mask (w i n:Nat):w &&& ((2 ^ n-1)*2 ^ i)=w/2 ^ i%2 ^ n*2 ^ i:=by
 apply Nat.eq_of_testBit_eq
 intro j
 rw [Nat.testBit_and,Nat.testBit_mul_two_pow,Nat.testBit_mul_two_pow,Nat.testBit_two_pow_sub_one,Nat.testBit_mod_two_pow,Nat.testBit_div_two_pow]
 by_cases h:i≤j
 ·have e:j-i+i=j:=by omega
  simp [h,e]
  rw [Bool.and_comm]
 ·simp [h]
theorem nor_add (x y i:Nat)(h:x<2 ^ i):y*2 ^ i ||| x=y*2 ^ i+x:=by
 rw [Nat.mul_comm];exact (Nat.two_pow_add_eq_or_of_lt h y).symm
theorem nand7 (w:Nat):w &&& 127=w%128:=by
 have:=nand_mask w 0 7;simpa using this
theorem nand12 (w:Nat):w &&& 28672=w/4096%8*4096:=nand_mask w 12 3
theorem nand25 (w:Nat):w &&& 4261412864=w/33554432%128*33554432:=nand_mask w 25 7
theorem nand27 (w:Nat):w &&& 4160749568=w/134217728%32*134217728:=nand_mask w 27 5
theorem nandM (w:Nat):w &&& 28799=w/4096%8*4096+w%128:=by
 rw [show (28799:Nat)=28672 ||| 127 by decide,Nat.and_or_distrib_left,nand7,nand12,←nor_add _ _ 12 (by omega)]
theorem nandU (w:Nat):w &&& 4261441663=w/33554432%128*33554432+(w/4096%8*4096+w%128):=by
 rw [show (4261441663:Nat)=4261412864 ||| 28799 by decide,Nat.and_or_distrib_left,nandM,nand25,←nor_add _ _ 25 (by omega)]
theorem nandA (w:Nat):w &&& 4160778367=w/134217728%32*134217728+(w/4096%8*4096+w%128):=by
 rw [show (4160778367:Nat)=4160749568 ||| 28799 by decide,Nat.and_or_distrib_left,nandM,nand27,←nor_add _ _ 27 (by omega)]
theorem band1 (h0:0≤w)(h1:w<4294967296):band w 127=w%128:=by
 unfold band;rw [show (127:Int).toNat=127 from rfl,nand7];omega
theorem bandM (h0:0≤w)(h1:w<4294967296):band w 28799=w%128+w/4096%8*4096:=by
 unfold band;rw [show (28799:Int).toNat=28799 from rfl,nandM];omega
theorem bandU (h0:0≤w)(h1:w<4294967296):band w 4261441663=w%128+w/4096%8*4096+w/33554432*33554432:=by
 unfold band;rw [show (4261441663:Int).toNat=4261441663 from rfl,nandU];omega
theorem bandA (h0:0≤w)(h1:w<4294967296):band w 4160778367=w%128+w/4096%8*4096+w/134217728*134217728:=by
 unfold band;rw [show (4160778367:Int).toNat=4160778367 from rfl,nandA];omega
theorem bandE (h0:0≤w)(h1:w<4294967296):band w 4294967295=w:=by
 unfold band;rw [show (4294967295:Int).toNat=2 ^ 32-1 from rfl,Nat.and_two_pow_sub_one_eq_mod];omega
def part (f w:Int):Int:=
 if f=1∨f=2 then w%128 else if f=3∨f=5∨f=6 then w%128+w/4096%8*4096 else if f=4∨f=7 then w%128+w/4096%8*4096+w/33554432*33554432
 else if f=8 then w%128+w/4096%8*4096+w/134217728*134217728 else if f=9 then w else 0
theorem band_part {f:Int}(h0:0≤w)(h1:w<4294967296):band w (mask f)=part f w:=by
 unfold mask part
 split
 ·exact band1 h0 h1
 split
 ·exact bandM h0 h1
 split
 ·exact bandU h0 h1
 split
 ·exact bandA h0 h1
 split
 ·exact bandE h0 h1
 ·simp [band]
theorem frm_bd (k:Int):0≤frm k∧frm k≤9:=by
 unfold frm;repeat' split
 all_goals omega
theorem raw_of {up:Int}(h1:w%128=lo)(h2:w/4096%8=mi)(h3:w/33554432=up):raw w=rawOf w lo mi up:=by subst h1 h2 h3;rfl
theorem raw_of1 (h1:w%128=lo):raw w=rawOf w lo (w/4096%8) (w/33554432):=by subst h1;rfl
theorem raw_of2 (h1:w%128=lo)(h2:w/4096%8=mi):raw w=rawOf w lo mi (w/33554432):=by subst h1 h2;rfl
theorem t1 {T:Int}(h:w%128=T)(e:∀a b,rawOf w T a b=k):raw w=k:=by rw [raw_of1 h];exact e _ _
theorem t2 {T:Int}(h:w%128+w/4096%8*4096=T)(e:∀b,rawOf w (T%128) (T/4096%8) b=k):raw w=k:=by
 rw [raw_of2 (lo:=T%128) (mi:=T/4096%8) (by omega) (by omega)];exact e _
theorem t3 {T:Int}(h:w%128+w/4096%8*4096+w/33554432*33554432=T)(e:rawOf w (T%128) (T/4096%8) (T/33554432)=k):raw w=k:=by
 rw [raw_of (lo:=T%128) (mi:=T/4096%8) (up:=T/33554432) (by omega) (by omega) (by omega)];exact e
theorem t4 {T:Int}(h:w%128+w/4096%8*4096+w/134217728*134217728=T)(e:∀b,b/4=T/134217728→rawOf w (T%128) (T/4096%8) b=k):raw w=k:=by
 rw [raw_of2 (lo:=T%128) (mi:=T/4096%8) (by omega) (by omega)];exact e _ (by omega)
theorem t5 {T:Int}(h:w=T)(e:raw T=k):raw w=k:=by rw [h];exact e
theorem told_raw (h0:0≤w)(h1:w<4294967296)(hk:1≤k)(hk':k≤59)(h:part (frm k) w=tbits k):raw w=k:=by
 have hd:(k=1∨k=2∨k=3)∨(k=4∨k=5∨k=6∨k=7∨k=8∨k=9∨k=10∨k=11∨k=12∨k=13∨k=14∨k=15∨k=16∨k=17∨k=18∨k=19∨k=20∨k=21∨k=22∨k=23∨k=24∨k=57)∨(k=25∨k=26∨k=27∨k=28∨k=29∨k=30∨k=31∨k=32∨k=33∨k=34∨k=35∨k=36∨k=37∨k=38∨k=39∨k=40∨k=41∨k=42∨k=43∨k=44∨k=45)∨(k=46∨k=47∨k=48∨k=49∨k=50∨k=51∨k=52∨k=53∨k=54∨k=55∨k=56)∨(k=58∨k=59):=by omega
 rcases hd with hd|hd|hd|hd|hd
 ·rcases hd with rfl|rfl|rfl<;>exact t1 h fun _ _=>rfl
 ·rcases hd with rfl|rfl|rfl|rfl|rfl|rfl|rfl|rfl|rfl|rfl|rfl|rfl|rfl|rfl|rfl|rfl|rfl|rfl|rfl|rfl|rfl|rfl<;>exact t2 h fun _=>rfl
 ·rcases hd with rfl|rfl|rfl|rfl|rfl|rfl|rfl|rfl|rfl|rfl|rfl|rfl|rfl|rfl|rfl|rfl|rfl|rfl|rfl|rfl|rfl<;>exact t3 h rfl
 ·rcases hd with rfl|rfl|rfl|rfl|rfl|rfl|rfl|rfl|rfl|rfl|rfl<;>exact t4 h fun b hb=>by show pk (b/4) lA=_;rw [hb];rfl
 ·rcases hd with rfl|rfl<;>exact t5 h (by decide)
theorem pk_cases {n:Int}{P:Int→Prop}:(l:List (Int×Int))→(h0:P 0)→(∀x∈l,n=x.1→P x.2)→P (pk n l)
 | [],h0,_=>h0
 | (a,o)::r,h0,h=>by
  unfold pk
  split
  ·exact h (a,o) (by simp) ‹_›
  ·exact pk_cases r h0 fun x hx=>h x (by simp [hx])
def sp1 (lo:Int):Int:=if lo=55 then 1 else if lo=23 then 2 else if lo=111 then 3 else if lo=103 then 4 else if lo=99 then 5 else if lo=3 then 11 else if lo=35 then 16 else if lo=19 then 19 else if lo=51 then 28 else if lo=47 then 46 else if lo=15 then 57 else if lo=115 then 58 else 0
def sp2 (lo:Int):Int:=if lo=55 then 1 else if lo=23 then 2 else if lo=111 then 3 else if lo=103 then 4 else if lo=99 then 10 else if lo=3 then 15 else if lo=35 then 18 else if lo=19 then 27 else if lo=51 then 45 else if lo=47 then 56 else if lo=15 then 57 else if lo=115 then 59 else -1
def Q (w k:Int):Prop:=k≠0→part (frm k) w=tbits k∧1≤k∧k≤59∧sp1 (w%128)≤k∧k≤sp2 (w%128)
theorem Q0 (w:Int):Q w 0:=fun h=>absurd rfl h
theorem q_ {L:Int}(hl:w%128=L)(hp:part (frm k) w=tbits k)(hb:1≤k∧k≤59∧sp1 L≤k∧k≤sp2 L):Q w k:=fun _=>by subst hl;exact ⟨hp,hb⟩
theorem qM {L M:Int}(hl:w%128=L)(hm:w/4096%8=M)(f:∀v,part (frm k) v=v%128+v/4096%8*4096)(e:L+M*4096=tbits k)(hb:1≤k∧k≤59∧sp1 L≤k∧k≤sp2 L):Q w k:=
 q_ hl (by rw [f,hl,hm];exact e) hb
theorem qU {L M U:Int}(hl:w%128=L)(hm:w/4096%8=M)(hu:w/33554432=U)(f:∀v,part (frm k) v=v%128+v/4096%8*4096+v/33554432*33554432)(e:L+M*4096+U*33554432=tbits k)(hb:1≤k∧k≤59∧sp1 L≤k∧k≤sp2 L):Q w k:=
 q_ hl (by rw [f,hl,hm,hu];exact e) hb
theorem qA {L M U:Int}(hl:w%128=L)(hm:w/4096%8=M)(hu:w/33554432/4=U)(f:∀v,part (frm k) v=v%128+v/4096%8*4096+v/134217728*134217728)(e:L+M*4096+U*134217728=tbits k)(hb:1≤k∧k≤59∧sp1 L≤k∧k≤sp2 L):Q w k:=
 q_ hl (by rw [f,hl,hm,show w/134217728=U by omega];exact e) hb
theorem raw_told (h0:0≤w)(h1:w<4294967296):Q w (raw w):=by
 unfold raw rawOf
 by_cases hl:w%128=55
 ·rw [if_pos hl]
  exact q_ hl hl (by decide)
 rw [if_neg hl];clear hl
 by_cases hl:w%128=23
 ·rw [if_pos hl]
  exact q_ hl hl (by decide)
 rw [if_neg hl];clear hl
 by_cases hl:w%128=111
 ·rw [if_pos hl]
  exact q_ hl hl (by decide)
 rw [if_neg hl];clear hl
 by_cases hl:w%128=103
 ·rw [if_pos hl]
  refine pk_cases [(0,4)] (Q0 w) fun x hx hn=>?_
  simp only [List.mem_cons,List.not_mem_nil,or_false] at hx
  subst hx
  exact qM hl hn (fun _=>rfl) rfl (by decide)
 rw [if_neg hl];clear hl
 by_cases hl:w%128=99
 ·rw [if_pos hl]
  refine pk_cases lB (Q0 w) fun x hx hn=>?_
  simp only [lB,List.mem_cons,List.not_mem_nil,or_false] at hx
  rcases hx with rfl|rfl|rfl|rfl|rfl|rfl<;>exact qM hl hn (fun _=>rfl) rfl (by decide)
 rw [if_neg hl];clear hl
 by_cases hl:w%128=3
 ·rw [if_pos hl]
  refine pk_cases lL (Q0 w) fun x hx hn=>?_
  simp only [lL,List.mem_cons,List.not_mem_nil,or_false] at hx
  rcases hx with rfl|rfl|rfl|rfl|rfl<;>exact qM hl hn (fun _=>rfl) rfl (by decide)
 rw [if_neg hl];clear hl
 by_cases hl:w%128=35
 ·rw [if_pos hl]
  refine pk_cases lS (Q0 w) fun x hx hn=>?_
  simp only [lS,List.mem_cons,List.not_mem_nil,or_false] at hx
  rcases hx with rfl|rfl|rfl<;>exact qM hl hn (fun _=>rfl) rfl (by decide)
 rw [if_neg hl];clear hl
 by_cases hl:w%128=19
 ·rw [if_pos hl]
  by_cases hm:w/4096%8=1∨w/4096%8=5
  ·rw [if_pos hm]
   refine pk_cases lH (Q0 w) fun x hx hn=>?_
   simp only [lH,List.mem_cons,List.not_mem_nil,or_false] at hx
   rcases hx with rfl|rfl|rfl
   ·exact qU (M:=1) (U:=0) hl (by simp only at hn;omega) (by simp only at hn;omega) (fun _=>rfl) rfl (by decide)
   ·exact qU (M:=5) (U:=0) hl (by simp only at hn;omega) (by simp only at hn;omega) (fun _=>rfl) rfl (by decide)
   ·exact qU (M:=5) (U:=32) hl (by simp only at hn;omega) (by simp only at hn;omega) (fun _=>rfl) rfl (by decide)
  ·rw [if_neg hm]
   refine pk_cases lI (Q0 w) fun x hx hn=>?_
   simp only [lI,List.mem_cons,List.not_mem_nil,or_false] at hx
   rcases hx with rfl|rfl|rfl|rfl|rfl|rfl<;>exact qM hl hn (fun _=>rfl) rfl (by decide)
 rw [if_neg hl];clear hl
 by_cases hl:w%128=51
 ·rw [if_pos hl]
  by_cases hu:w/33554432=0
  ·rw [if_pos hu]
   refine pk_cases lR0 (Q0 w) fun x hx hn=>?_
   simp only [lR0,List.mem_cons,List.not_mem_nil,or_false] at hx
   rcases hx with rfl|rfl|rfl|rfl|rfl|rfl|rfl|rfl<;>exact qU hl hn hu (fun _=>rfl) rfl (by decide)
  rw [if_neg hu];clear hu
  by_cases hu:w/33554432=32
  ·rw [if_pos hu]
   refine pk_cases lR32 (Q0 w) fun x hx hn=>?_
   simp only [lR32,List.mem_cons,List.not_mem_nil,or_false] at hx
   rcases hx with rfl|rfl<;>exact qU hl hn hu (fun _=>rfl) rfl (by decide)
  rw [if_neg hu];clear hu
  by_cases hu:w/33554432=1
  ·rw [if_pos hu]
   refine pk_cases lR1 (Q0 w) fun x hx hn=>?_
   simp only [lR1,List.mem_cons,List.not_mem_nil,or_false] at hx
   rcases hx with rfl|rfl|rfl|rfl|rfl|rfl|rfl|rfl<;>exact qU hl hn hu (fun _=>rfl) rfl (by decide)
  rw [if_neg hu];clear hu
  exact Q0 w
 rw [if_neg hl];clear hl
 by_cases hl:w%128=47
 ·rw [if_pos hl]
  by_cases hm:w/4096%8=2
  ·rw [if_pos hm]
   refine pk_cases lA (Q0 w) fun x hx hn=>?_
   simp only [lA,List.mem_cons,List.not_mem_nil,or_false] at hx
   rcases hx with rfl|rfl|rfl|rfl|rfl|rfl|rfl|rfl|rfl|rfl|rfl<;>exact qA hl hm hn (fun _=>rfl) rfl (by decide)
  rw [if_neg hm];exact Q0 w
 rw [if_neg hl];clear hl
 by_cases hl:w%128=15
 ·rw [if_pos hl]
  refine pk_cases [(0,57)] (Q0 w) fun x hx hn=>?_
  simp only [List.mem_cons,List.not_mem_nil,or_false] at hx
  subst hx
  exact qM hl hn (fun _=>rfl) rfl (by decide)
 rw [if_neg hl];clear hl
 by_cases hl:w%128=115
 ·rw [if_pos hl]
  refine pk_cases lE (Q0 w) fun x hx hn=>?_
  simp only [lE,List.mem_cons,List.not_mem_nil,or_false] at hx
  rcases hx with rfl|rfl<;>exact q_ hl hn (by decide)
 rw [if_neg hl];clear hl
 exact Q0 w
theorem told_iff (h0:0≤w)(h1:w<4294967296)(hk:1≤k)(hk':k≤59):band w (mask (frm k))=tbits k↔raw w=k:=by
 rw [band_part h0 h1]
 refine ⟨told_raw h0 h1 hk hk',fun h=>?_⟩
 have:=(raw_told h0 h1 (by omega)).1
 rwa [h] at this
theorem raw_bd (h0:0≤w)(h1:w<4294967296):0≤raw w∧raw w≤59:=by
 by_cases h:raw w=0
 ·omega
 ·have:=raw_told h0 h1 h;omega
end Go.Proofs.YtkdghgiajifbdaaDoor.Dc
namespace Go.Proofs.YtkdghgiajifbdaaDoor.Hh
open Mm Wd

def opn (op:Int):Int:=if op=19 then 28 else if op=20 then 31 else if op=21 then 32 else if op=22 then 33 else if op=23 then 36 else if op=24 then 37 else if op=25 then 30 else if op=26 then 34 else 35
structure Ev where
 h:Hv
 m:List UInt8
 out:List Int
 sto:List (Int×Int)
 res:Option Int
def efLoad (h:Hv) (l:List UInt8) (op at':Int):Ev:=if ldOk l op at'=true then ⟨h,l,[],[],some (ldV l op at')⟩ else ⟨h.trap 3,l,[],[],none⟩
def efStore (h:Hv) (l:List UInt8) (op at' b:Int):Ev:=if stOk l op at'=true then ⟨h,stL l op at' b,[],[(at',(ssz op:Nat))],none⟩ else ⟨h.trap 4,l,[],[],none⟩
def efLr (h:Hv) (l:List UInt8) (a:Int):Ev:=if ldOk l 13 a=true then ⟨h.hold true a,l,[],[],some (ldV l 13 a)⟩ else ⟨h.trap 3,l,[],[],none⟩
def efSc (h:Hv) (l:List UInt8) (a b:Int):Ev:=if ldOk l 13 a=true then (if h.held=true∧h.heldAt=a then ⟨h.hold false 0,stL l 18 a b,[],[(a,4)],some 0⟩ else ⟨h.hold false 0,l,[],[],some 1⟩) else ⟨h.trap 4,l,[],[],none⟩
def efAmo (h:Hv) (l:List UInt8) (op a b:Int):Ev:=if ldOk l 13 a=true then ⟨h,stL l 18 a (amo op (ldV l 13 a) b),[],[(a,4)],some (ldV l 13 a)⟩ else ⟨h.trap 4,l,[],[],none⟩
def efAtom (h:Hv) (l:List UInt8) (op a b:Int):Ev:=if op=46 then efLr h l a else if op=47 then efSc h l a b else efAmo h l op a b
def efCall (h:Hv) (l:List UInt8):Ev:=if rg h 17=0 then ⟨h.halt,l,[],[],none⟩ else if rg h 17=1 then ⟨h,l,[rg h 10],[],none⟩ else ⟨h.trap 5,l,[],[],none⟩
def eff (h:Hv) (l:List UInt8) (op a b n:Int):Ev:=
 if op=1 then ⟨h,l,[],[],some n⟩ else if op=2 then ⟨h,l,[],[],some (lo (h.pc+n))⟩ else if op=3∨op=4 then ⟨h,l,[],[],some (lo (h.pc+4))⟩
 else if 11≤op∧op≤15 then efLoad h l op (lo (a+n)) else if 16≤op∧op≤18 then efStore h l op (lo (a+n)) b
 else if 19≤op∧op≤27 then ⟨h,l,[],[],some (alu (opn op) a n)⟩ else if 28≤op∧op≤45 then ⟨h,l,[],[],some (alu op a b)⟩
 else if 46≤op∧op≤56 then efAtom h l op a b else if op=58 then efCall h l else if op=59 then ⟨h.trap 6,l,[],[],none⟩ else ⟨h,l,[],[],none⟩
def nxt (h:Hv) (op a b n:Int):Int:=if op=4 then lo (a+n)-lo (a+n)%2 else if op=3∨holds op a b=true then lo (h.pc+n) else lo (h.pc+4)
structure Sv where
 h:Hv
 m:List UInt8
 out:List Int
 sto:List (Int×Int)
def Hv.put (h:Hv) (rd:Nat):Option Int→Hv
 | some x=>h.set rd x
 | none=>h
def Hv.on (h:Hv) (x:Int):Hv:=if h.state=0 then h.go x else h
def done (e:Ev) (rd:Nat) (nx:Int):Sv:=⟨(e.h.put rd e.res).on nx,e.m,e.out,e.sto⟩
def ins (h:Hv) (l:List UInt8) (op rd r1 r2 im:Int):Sv:=
 done (eff h l op (rg h r1.toNat) (rg h r2.toNat) (lo im)) rd.toNat (nxt h op (rg h r1.toNat) (rg h r2.toNat) (lo im))
def insW (h:Hv) (l:List UInt8) (x:Int):Sv:=
 if Dc.dop x=0 then ⟨h.trap 2,l,[],[]⟩ else ins h l (Dc.dop x) (Dc.rdF (Dc.frm (Dc.dop x)) x) (Dc.rs1F (Dc.frm (Dc.dop x)) x) (Dc.rs2F (Dc.frm (Dc.dop x)) x) (Dc.immF (Dc.frm (Dc.dop x)) x)
def stp (h:Hv) (l:List UInt8):Sv:=if ldOk l 13 h.pc=true then insW h l (ldV l 13 h.pc) else ⟨h.trap 1,l,[],[]⟩
def may (h:Hv):Bool:=decide (rg h 0=0∧(h.held=false→h.heldAt=0)∧(((h.state=0∨h.state=1)∧h.cause=0)∨(h.state=2∧1≤h.cause∧h.cause≤6)))
end Go.Proofs.YtkdghgiajifbdaaDoor.Hh
namespace Go.Proofs.YtkdghgiajifbdaaDoor.Hh
open Mm Wd

variable {n a b op x : Int} {h : Hv} {l : List UInt8}
def W (x:Int):Prop:=0≤x∧x<4294967296
theorem W.lo (n:Int):W (lo n):=lo_bd n
theorem W.tr (b:Bool):W (tr b):=by unfold Wd.tr W;cases b<;>simp
theorem W.hi (n:Int):W (hi n):=by unfold Wd.hi W;omega
theorem W.nat {n:Nat}(h:n<2 ^ 32):W (n:Int):=by unfold W;omega
theorem W.lt (h:W a):a.toNat<2 ^ 32:=by unfold W at h;omega
theorem W.band (ha:W a)(hb:W b):W (band a b):=W.nat (Nat.and_lt_two_pow _ hb.lt)
theorem W.bor (ha:W a)(hb:W b):W (bor a b):=W.nat (Nat.or_lt_two_pow ha.lt hb.lt)
theorem W.bxor (ha:W a)(hb:W b):W (bxor a b):=W.nat (Nat.xor_lt_two_pow ha.lt hb.lt)
theorem W.div (ha:W a)(hb:0≤b):W (a/b):=by
 unfold W at *
 exact ⟨Int.ediv_nonneg ha.1 hb,Int.lt_of_le_of_lt (Int.ediv_le_self b ha.1) ha.2⟩
theorem W.mod (hb:W b)(h:¬b=0):W (a%b):=by
 unfold W at *
 have:=Int.emod_nonneg a h
 have:=Int.emod_lt_of_pos a (show 0<b by omega)
 omega
theorem W.ite {p:Prop}[Decidable p](ha:W a)(hb:W b):W (if p then a else b):=by split<;>assumption
theorem W.alu (ha:W a)(hb:W b):W (alu op a b):=by
 have h0:W 0:=by unfold W;omega
 have h1:W 4294967295:=by unfold W;omega
 have p:=pw_bd b hb.1
 unfold Wd.alu
 refine .ite (.lo _) (.ite (.lo _) (.ite (ha.band hb) (.ite (ha.bor hb) (.ite (ha.bxor hb) (.ite (.lo _) (.ite (ha.div (by omega)) (.ite (.lo _) (.ite (.tr _) (.ite (.tr _) (.ite (.lo _) (.ite (.hi _) (.ite (.hi _) (.ite (.hi _) (.ite ?_ (.ite ?_ (.ite ?_ (.ite ?_ h0)))))))))))))))))
 ·exact .ite h1 (.lo _)
 ·exact .ite ha (.lo _)
 ·exact .ite h1 (ha.div hb.1)
 ·unfold rmu;split
  ·exact ha
  ·exact W.mod hb (by assumption)
theorem W.amo (ha:W a)(hb:W b):W (amo op a b):=by
 have h0:W 0:=by unfold W;omega
 unfold Wd.amo
 exact .ite hb (.ite (.lo _) (.ite (ha.bxor hb) (.ite (ha.band hb) (.ite (ha.bor hb) (.ite (.ite ha hb) (.ite (.ite hb ha) (.ite (.ite ha hb) (.ite (.ite hb ha) h0))))))))
theorem W.ldV (l:List UInt8)(op a:Int):W (ldV l op a):=by
 have h0:W 0:=by unfold W;omega
 unfold Mm.ldV
 refine .ite ?_ h0
 have h:=raw_bd l a.toNat (lsz op)
 have c:=raw_cap l a.toNat op
 generalize raw l a.toNat (lsz op)=x at *
 unfold wide W
 repeat' split
 all_goals omega
theorem W.nxt:W (nxt h op a b n):=by
 unfold Hh.nxt
 refine .ite ?_ (.ite (.lo _) (.lo _))
 have:=lo_bd (a+n)
 unfold W
 omega
theorem W.reg (o:h.Ok)(i:Nat):W (rg h i):=o.reg i
theorem st_of_ld (h:ldOk l 13 a=true):stOk l 18 a=true:=h
theorem W.pc (o:h.Ok):W h.pc:=⟨o.pc0,o.pc1⟩
structure Ev.Ok (e:Ev) (l:List UInt8):Prop where
 h:e.h.Ok
 m:e.m.length=l.length
 res:W (e.res.getD 0)
 out:e.out.length≤1
 sto:e.sto.length≤1
theorem stL_len' (ok:stOk l op a=true):(stL l op a x).length=l.length:=by unfold stL;rw [ok];exact len_put _ _ _ _
theorem ev_mk {m:List UInt8}{out:List Int}{sto:List (Int×Int)}{res:Option Int}(oh:h.Ok)(om:m.length=l.length)(w:W (res.getD 0))(oo:out.length≤1)(os:sto.length≤1):Ev.Ok ⟨h,m,out,sto,res⟩ l:=⟨oh,om,w,oo,os⟩
theorem W.zero:W 0:=by unfold W;omega
theorem W.one:W 1:=by unfold W;omega
theorem efLoad_ok (o:h.Ok)(l:List UInt8)(op a:Int):(efLoad h l op a).Ok l:=by
 unfold efLoad;split
 ·exact ev_mk o rfl (.ldV _ _ _) (by simp) (by simp)
 ·exact ev_mk (o.trap 3) rfl .zero (by simp) (by simp)
theorem efStore_ok (o:h.Ok)(l:List UInt8)(op a x:Int):(efStore h l op a x).Ok l:=by
 unfold efStore;split
 ·exact ev_mk o (stL_len' (by assumption)) .zero (by simp) (by simp)
 ·exact ev_mk (o.trap 4) rfl .zero (by simp) (by simp)
theorem efAtom_ok (o:h.Ok)(l:List UInt8)(op a b:Int)(ha:W a):(efAtom h l op a b).Ok l:=by
 unfold efAtom;split
 ·unfold efLr;split
  ·exact ev_mk (o.hold true ha.1 ha.2) rfl (.ldV _ _ _) (by simp) (by simp)
  ·exact ev_mk (o.trap 3) rfl .zero (by simp) (by simp)
 ·split
  ·unfold efSc;split
   ·split
    ·exact ev_mk (o.hold false (x:=0) (by omega) (by omega)) (stL_len' (st_of_ld (by assumption))) .zero (by simp) (by simp)
    ·exact ev_mk (o.hold false (x:=0) (by omega) (by omega)) rfl .one (by simp) (by simp)
   ·exact ev_mk (o.trap 4) rfl .zero (by simp) (by simp)
  ·unfold efAmo;split
   ·exact ev_mk o (stL_len' (st_of_ld (by assumption))) (.ldV _ _ _) (by simp) (by simp)
   ·exact ev_mk (o.trap 4) rfl .zero (by simp) (by simp)
theorem efCall_ok (o:h.Ok)(l:List UInt8):(efCall h l).Ok l:=by
 unfold efCall;split
 ·exact ev_mk o.halt rfl .zero (by simp) (by simp)
 ·split
  ·exact ev_mk o rfl .zero (by simp) (by simp)
  ·exact ev_mk (o.trap 5) rfl .zero (by simp) (by simp)
theorem eff_ok (o:h.Ok)(l:List UInt8)(ha:W a)(hb:W b)(hn:W n):(eff h l op a b n).Ok l:=by
 unfold eff
 split
 ·exact ev_mk o rfl hn (by simp) (by simp)
 split
 ·exact ev_mk o rfl (.lo _) (by simp) (by simp)
 split
 ·exact ev_mk o rfl (.lo _) (by simp) (by simp)
 split
 ·exact efLoad_ok o l _ _
 split
 ·exact efStore_ok o l _ _ _
 split
 ·exact ev_mk o rfl (ha.alu hn) (by simp) (by simp)
 split
 ·exact ev_mk o rfl (ha.alu hb) (by simp) (by simp)
 split
 ·exact efAtom_ok o l _ _ _ ha
 split
 ·exact efCall_ok o l
 split
 ·exact ev_mk (o.trap 6) rfl .zero (by simp) (by simp)
 ·exact ev_mk o rfl .zero (by simp) (by simp)
theorem put_ok (o:h.Ok)(r:Nat){x:Option Int}(w:W (x.getD 0)):(h.put r x).Ok:=by
 cases x with
 | none=>exact o
 | some x=>exact o.set r w.1 w.2
theorem on_ok (o:h.Ok)(w:W x):(h.on x).Ok:=by
 unfold Hv.on;split
 ·exact o.go w.1 w.2
 ·exact o
end Go.Proofs.YtkdghgiajifbdaaDoor.Hh
namespace Go.Proofs.YtkdghgiajifbdaaDoor.Mi
open Mm Wd Hh

structure Mv where
 op:Int
 d:Int
 a:Int
 b:Int
 n:Int
structure Rn where
 h:Hv
 m:List UInt8
 out:List Int
 n:Nat
 sto:List (Int×Int)
 tm:List Int
 here:Int
 own:Bool
 over:Bool
def Rn.get (r:Rn) (k:Int):Int:=if k<32 then rg r.h k.toNat else r.tm.getD (k-32).toNat 0
def Rn.put (r:Rn) (k x:Int):Rn:=if 32≤k then { r with tm:=r.tm.set (k-32).toNat x } else { r with h:=r.h.set k.toNat x }
def Rn.stop (r:Rn) (pc:Int):Rn:={ r with h:=r.h.go pc,over:=true }
def Rn.trap (r:Rn) (c:Int):Rn:={ r with h:=(r.h.trap c).go r.here,over:=true }
def hits (bf bt p:Int):Nat→Bool
 | 0=>false
 | k+1=>hits bf bt p k || decide (bf≤lo (p+k)∧lo (p+k)<bt)
def Rn.stored (r:Rn) (bf bt:Int) (p:Int) (many:Nat):Rn:={ r with sto:=r.sto++[(p,(many:Int))],own:=r.own || hits bf bt p many }
def mLoad (r:Rn) (op p d:Int):Rn:=if ldOk r.m op p=true then r.put d (ldV r.m op p) else r.trap 3
def mStore (bf bt:Int) (r:Rn) (op p x:Int):Rn:=if stOk r.m op p=true then { r with m:=stL r.m op p x }.stored bf bt p (ssz op) else r.trap 4
def mLr (r:Rn) (a d:Int):Rn:=if ldOk r.m 13 a=true then { r with h:=r.h.hold true a }.put d (ldV r.m 13 a) else r.trap 3
def mSc (bf bt:Int) (r:Rn) (a b d:Int):Rn:=if ldOk r.m 13 a=true then (if r.h.held=true∧r.h.heldAt=a then ({ r with h:=r.h.hold false 0,m:=stL r.m 18 a b }.stored bf bt a 4).put d 0 else { r with h:=r.h.hold false 0 }.put d 1) else r.trap 4
def mAmo (bf bt:Int) (r:Rn) (op a b d:Int):Rn:=if ldOk r.m 13 a=true then ({ r with m:=stL r.m 18 a (amo op (ldV r.m 13 a) b) }.stored bf bt a 4).put d (ldV r.m 13 a) else r.trap 4
def mAtom (bf bt:Int) (r:Rn) (op a b d:Int):Rn:=if op=46 then mLr r a d else if op=47 then mSc bf bt r a b d else mAmo bf bt r op a b d
def mCall (r:Rn):Rn:=if rg r.h 17=0 then { r with h:=r.h.halt.go r.here,over:=true } else if rg r.h 17=1 then { r with out:=r.out++[rg r.h 10] } else r.trap 5
def mAt (steps:Int) (r:Rn) (n:Int):Rn:=if (r.n:Int)=steps∨r.own=true then r.stop n else { r with n:=r.n+1,here:=n }
def mOp (bf bt:Int) (r:Rn) (c op:Int) (i:Mv):Rn:=
 if c=100 then (if holds op (r.get i.a) (r.get i.b)=true then r.stop i.n else r)
 else if c=200 then mLoad r op (lo (r.get i.a+i.n)) i.d
 else if c=300 then mStore bf bt r op (lo (r.get i.a+i.n)) (r.get i.b)
 else if c=400 then r.put i.d (alu op (r.get i.a) (r.get i.b))
 else if c=500 then r.put i.d (alu op (r.get i.a) i.n)
 else if c=600 then mAtom bf bt r op (r.get i.a) (r.get i.b) i.d else r
def mic (bf bt steps:Int) (r:Rn) (i:Mv):Rn:=
 if i.op=1 then mAt steps r i.n else if i.op=2 then r.put i.d i.n else if i.op=3 then r.stop i.n
 else if i.op=4 then r.stop (lo (r.get i.a+i.n)-lo (r.get i.a+i.n)%2) else if i.op=5 then mCall r else if i.op=6 then r.trap 6
 else mOp bf bt r (i.op-i.op%100) (i.op%100) i
def named (op:Int):Int:=
 if op=1∨op=3 then 8 else if op=2 then 9 else if op=4 then 10 else if op=5∨op=6 then 0
 else if 105≤op∧op≤110 then 14 else if 211≤op∧op≤215 then 11 else if 316≤op∧op≤318 then 14
 else if 428≤op∧op≤445 then 7 else if 528≤op∧op≤545 then 11 else if 646≤op∧op≤656 then 7 else -1
def regOk (has:Bool) (k:Int):Bool:=decide ((has=true∨k=0)∧0≤k∧k<36)
def micOk (i:Mv):Bool:=decide (0≤named i.op) && (decide (8≤named i.op∨i.n=0) && (regOk (decide (named i.op%2=1)) i.d && (regOk (decide (named i.op/2%2=1)) i.a && regOk (decide (named i.op/4%2=1)) i.b)))
def mayC (code:List Mv):Bool:=decide (code.length≤200) && code.all micOk
def mrun (bf bt steps:Int) (r:Rn):List Mv→Rn
 | []=>r
 | i::is=>if r.over=true then r else mrun bf bt steps (mic bf bt steps r i) is
def mend (r:Rn):Rn:=if r.over=false∧0<r.n then { r with h:=r.h.go (lo (r.here+4)) } else r
def mstart (h:Hv) (l:List UInt8):Rn:=⟨h,l,[],0,[],[0,0,0,0],h.pc,false,false⟩
def mplay (bf bt steps:Int) (h:Hv) (l:List UInt8) (code:List Mv):Rn:=mend (mrun bf bt steps (mstart h l) code)
structure Rn.Ok (r:Rn):Prop where
 h:r.h.Ok
 tl:r.tm.length=4
 tb:∀j,0≤r.tm.getD j 0∧r.tm.getD j 0<4294967296
 h0:0≤r.here
 h1:r.here<4294967296
theorem Rn.Ok.get {r:Rn}(o:r.Ok)(k:Int):W (r.get k):=by
 unfold Rn.get
 split
 ·exact o.h.reg _
 ·exact o.tb _
theorem tm_set (l:List Int)(k j:Nat)(x:Int):(l.set k x).getD j 0=if j=k∧k<l.length then x else l.getD j 0:=by
 simp only [List.getD,List.getElem?_set]
 by_cases e:k=j
 ·subst e
  by_cases h:k<l.length
  ·simp [h]
  ·simp [h]
 ·have e2:¬j=k:=fun q=>e q.symm
  simp [e,e2]
theorem Rn.Ok.put {r:Rn}(o:r.Ok)(k:Int){x:Int}(hx:W x):(r.put k x).Ok:=by
 unfold Rn.put
 split
 ·refine ⟨o.h,by simp [o.tl],fun j=>?_,o.h0,o.h1⟩
  show 0≤(r.tm.set _ x).getD j 0∧_
  rw [tm_set]
  split
  ·exact hx
  ·exact o.tb j
 ·exact ⟨o.h.set _ hx.1 hx.2,o.tl,o.tb,o.h0,o.h1⟩
theorem Rn.Ok.stop {r:Rn}(o:r.Ok){x:Int}(hx:W x):(r.stop x).Ok:=⟨o.h.go hx.1 hx.2,o.tl,o.tb,o.h0,o.h1⟩
theorem Rn.Ok.trap {r:Rn}(o:r.Ok)(c:Int):(r.trap c).Ok:=⟨(o.h.trap c).go o.h0 o.h1,o.tl,o.tb,o.h0,o.h1⟩
theorem Rn.Ok.hart {r:Rn}(o:r.Ok){h:Hv}(q:h.Ok):Rn.Ok { r with h:=h }:=⟨q,o.tl,o.tb,o.h0,o.h1⟩
theorem Rn.Ok.mem {r:Rn}(o:r.Ok)(m:List UInt8):Rn.Ok { r with m:=m }:=⟨o.h,o.tl,o.tb,o.h0,o.h1⟩
theorem Rn.Ok.stored {r:Rn}(o:r.Ok)(bf bt p:Int)(k:Nat):(r.stored bf bt p k).Ok:=⟨o.h,o.tl,o.tb,o.h0,o.h1⟩
end Go.Proofs.YtkdghgiajifbdaaDoor.Mi
