/- ours -/
import Derived.Test.YtiadhbmnfjfioaaGreatDoorX01
import Derived.Shelf.GgClosure.StringsTrimFunc
import Derived.Test.YtiadhbmnfjfioaaGreatDoorShelf
import Derived.Lib.AppendIntMem
import Derived.Stop.LaidErr
import Derived.SizedLaws
import Derived.Deep.Slices
import Derived.Deep.WholeRow
set_option linter.unusedVariables false
set_option linter.unusedSimpArgs false
set_option maxHeartbeats 8000000
set_option maxRecDepth 100000
set_option linter.unusedSectionVars false
namespace Go.Proofs.YtiadhbmnfjfioaaGreatDoor
open Go.Proofs.Tryz hiding t0 t1 t2
namespace Re
open Go.ChangeShapes Go.WideShapes Go.ChangeAt Go.RowKit Dw

end Re
namespace Re
open Go.ChangeShapes Go.WideShapes Go.ChangeAt Go.RowKit Dw

end Re
namespace Re
open Go.ChangeShapes Go.WideShapes Go.ChangeAt Go.RowKit Dw

end Re
namespace Re
open Go.ChangeShapes Go.WideShapes Go.ChangeAt Go.RowKit Dw

variable {op rd bL bT n :Int}
def XI (op rd bL bT n:Int):Prop:=(1<=op/\op<=59/\0<=rd/\rd<=31/\0<=bL/\bL<=31/\0<=bT/\bT<=31)/\
 ((1<=op/\op<=2/\bL=0/\bT=0/\n.tmod 4096=0)\/(3<=op/\op<=3/\bL=0/\bT=0 /\ -1048576<=n/\n<=1048574/\n.tmod 2=0)\/(4<=op/\op<=4/\bT=0 /\ -2048<=n/\n<=2047)\/(5<=op/\op<=10/\rd=0 /\ -4096<=n/\n<=4094/\n.tmod 2=0)\/(11<=op/\op<=15/\bT=0 /\ -2048<=n/\n<=2047)\/(16<=op/\op<=18/\rd=0 /\ -2048<=n/\n<=2047)\/(19<=op/\op<=24/\bT=0 /\ -2048<=n/\n<=2047)\/(25<=op/\op<=27/\bT=0/\0<=n/\n<=31)\/(28<=op/\op<=45/\n=0)\/(46<=op/\op<=56/\0<=n/\n<=3/\(op≠46\/bT=0))\/(57<=op/\op<=57/\bT=0 /\ -2048<=n/\n<=2047)\/(58<=op/\op<=59/\rd=0/\bL=0/\bT=0/\n=0))
end Re
namespace As

def names:List (List Nat):=[[108,117,105],[97,117,105,112,99],[106,97,108],[106,97,108,114],[98,101,113],[98,110,101],[98,108,116],[98,103,101],[98,108,116,117],[98,103,101,117],[108,98],[108,104],[108,119],[108,98,117],[108,104,117],[115,98],[115,104],[115,119],[97,100,100,105],[115,108,116,105],[115,108,116,105,117],[120,111,114,105],[111,114,105],[97,110,100,105],[115,108,108,105],[115,114,108,105],[115,114,97,105],[97,100,100],[115,117,98],[115,108,108],[115,108,116],[115,108,116,117],[120,111,114],[115,114,108],[115,114,97],[111,114],[97,110,100],[109,117,108],[109,117,108,104],[109,117,108,104,115,117],[109,117,108,104,117],[100,105,118],[100,105,118,117],[114,101,109],[114,101,109,117],[108,114],[115,99],[97,109,111,115,119,97,112],[97,109,111,97,100,100],[97,109,111,120,111,114],[97,109,111,97,110,100],[97,109,111,111,114],[97,109,111,109,105,110],[97,109,111,109,97,120],[97,109,111,109,105,110,117],[97,109,111,109,97,120,117],[102,101,110,99,101],[101,99,97,108,108],[101,98,114,101,97,107]]
def Rz (m:Int):List Nat:=if m=1 then[46,114,108]else if m=2 then[46,97,113]else if m=3 then[46,97,113,114,108]else[]
def rD (op m:Int):List Nat:=if 46<=op/\op<=56 then names.getD (op-1).toNat []++[46,119]++Rz m else names.getD (op-1).toNat []
def rg (n:Int):List Nat:=120::num n
abbrev F2 (op:Int):Prop:=op=4\/19<=op/\op<=27\/op=57
def Ld (op rd a b n:Int):List Nat:=
 if 58<=op then[]
 else if op<=3 then 32::(rg rd++44::num n)
 else if F2 op then 32::(rg rd++44::(rg a++44::num n))
 else if op<=10 then 32::(rg a++44::(rg b++44::num n))
 else if op<=15 then 32::(rg rd++44::(num n++40::(rg a++[41])))
 else if op<=18 then 32::(rg b++44::(num n++40::(rg a++[41])))
 else if op<=45 then 32::(rg rd++44::(rg a++44::rg b))
 else if op=46 then 32::(rg rd++44::40::(rg a++[41]))
 else 32::(rg rd++44::(rg b++44::40::(rg a++[41])))
def nw (op n:Int):Int:=if op<=2 then n/4096 else n
def vY (op rd a b n:Int):List Nat:=rD op n++Ld op rd a b (nw op n)
abbrev Fo:=Int×Int×Int×Int
abbrev Fi:=Int×Int×Int×Int×Int
end As
namespace As
open Go.ChangeShapes Go.WideShapes Go.ChangeAt Go.RowKit Mm

def str (l:List Nat):Value:=.string ⟨(l.map UInt8.ofNat).toArray⟩
theorem mP (a b:List Nat):Value.string (⟨(a.map UInt8.ofNat).toArray⟩++⟨(b.map UInt8.ofNat).toArray⟩)=str (a++b):=by unfold str;congr 1;apply ByteArray.ext;simp[ByteArray.data_append]
theorem mQ {n:Int}(h0 : -1000000000000<n)(h1:n<1000000000000):(num n).length<=20:=by have:=x8 17 n.natAbs (by omega);unfold num;split<;>simp<;>omega
end As
namespace As
open Go.ChangeShapes Go.WideShapes Go.ChangeAt Go.RowKit Mm

theorem tF {P:Program}{ops:Array Oper}{rest:List Oper}{o:Oper}{a:Act}{w:World}{Q:Exit→Act→World→Prop}(hg:o.guard=none)(t t2:TypeId)(x y:Operand)(ho:o.op=.binOp .add t x y t2)(A B:List Nat)(hx:a.eval x=str A)(hy:a.eval y=str B)(hl:A.length+B.length<=1000000)(h:wpList P ops Q rest (a.put o.dst (str (A++B))) w):wpList P ops Q (o::rest) a w:=by
 have e:(Op.stringOp .add ⟨(A.map UInt8.ofNat).toArray⟩ ⟨(B.map UInt8.ofNat).toArray⟩).run P w=.ok (str (A++B)) w:=by
  rw[<-mP];exact run_string_add_sum _ _ _ (by show(A.map UInt8.ofNat).toArray.size+(B.map UInt8.ofNat).toArray.size<=9223372036854775807;simp;omega)
 refine au5 hg fun K hK=>?_
 unfold Oper.wp execOp;simp only[ho,hx,hy];unfold str at e ⊢;simp only[eqGuard_add,au3,avd,auM,binOp_string_add,e];exact hK _ _ h
theorem zZ {op:Int}(h1:1<=op)(h2:op<=59)(m:Int):(rD op m).length<=20:=by
 obtain⟨k,rfl⟩:∃k:Nat,op=(k:Int)+1:=⟨(op-1).toNat,by omega⟩;have:∀k:Fin 59,(names.getD k.val []).length<=10:=by decide
 have:=this ⟨k,by omega⟩;unfold rD Rz;rw[show((k:Int)+1-1).toNat=k by omega];simp only at this;generalize names.getD k []=a at *
 repeat' split
 all_goals simp;omega
end As
namespace As
open Go.Lib

def bs (L:List Nat):ByteArray:=⟨(L.map UInt8.ofNat).toArray⟩
theorem bU (L:List Nat):(bs L).data.toList=L.map UInt8.ofNat:=by simp[bs]
theorem dz (L:List Nat):(bs L).size=L.length:=by rw[size_eq,bU];simp
theorem nU {a b:ByteArray}(h:a.data.toList=b.data.toList):a=b:=by obtain⟨⟨a⟩⟩:=a;obtain⟨⟨b⟩⟩:=b;simp at h;rw[h]
theorem RA (L:List Nat)(i:Nat):(bs L).extract i (bs L).size=bs (L.drop i):=nU (by rw[extract_data,bU,bU,dz,<-List.map_drop,ap0 (by simp)])
theorem RB (L:List Nat)(i:Nat):(bs L).extract 0 i=bs (L.take i):=nU (by rw[extract_data,bU,bU,List.drop_zero,Nat.sub_zero,<-List.map_take])
def Wz (s:ByteArray):List Nat:=s.data.toList.map UInt8.toNat
theorem Le (s:ByteArray):bs (Wz s)=s:=nU (by
 rw[bU];unfold Wz;rw[List.map_map]
 conv=>rhs;rw[<-List.map_id s.data.toList]
 apply List.map_congr_left;intro x _;simp)
theorem Lf {L:List Nat}(h:∀c∈L,c<256):Wz (bs L)=L:=by
 unfold Wz;rw[bU,List.map_map]
 conv=>rhs;rw[<-List.map_id L]
 apply List.map_congr_left;intro c hc;have:=h c hc;show(UInt8.ofNat c).toNat=c
 simp;omega
theorem CY {A B:List Nat}(ha:∀c∈A,c<256)(hb:∀c∈B,c<256)(h:bs A=bs B):A=B:=by rw[<-Lf ha,<-Lf hb,h]
theorem Lg (s:ByteArray):∀c∈Wz s,c<256:=by intro c hc;obtain⟨x,_,rfl⟩:=apK.1 hc;exact x.toNat_lt
theorem CZ (n:Nat):decDigits n=(dg n).map UInt8.ofNat:=by
 induction n using Nat.strongRecOn with
 |_ n ih=>
  by_cases h:n<10
  ·rw[K8 h,decDigits,dif_pos h];rfl
  ·rw[Wu h,decDigits,dif_neg h,ih (n/10) (by omega),aqb];rfl
theorem Lh (n:Int):itoa n=(num n).map UInt8.ofNat:=by
 unfold itoa num;by_cases h:n<0
 ·rw[at7 h,at7 h,CZ];rfl
 ·rw[at6 h,at6 h,CZ,show n.toNat=n.natAbs by omega]
def vg (acc:Nat) (l:List Nat):Nat:=l.foldl (fun n d=>10*n+(d-48)) acc
theorem WA:∀(l:List Nat) (acc:Nat),acc≤vg acc l
 | [],acc=>apn _
 |d::l,acc=>by
  have:=WA l (10*acc+(d-48));show acc<=vg (10*acc+(d-48)) l
  omega
theorem WB {M:Nat}(hM:M<18446744073709551616):∀(l:List Nat) (acc:Nat),(∀d∈l,IsD d)→vg acc l≤M→parseUintM M acc (l.map UInt8.ofNat)=.ok (vg acc l)
 | [],acc,_,_=>rfl
 |d::l,acc,hd,hv=>by
  have h1:=hd d (by simp);unfold IsD at h1;have e:(UInt8.ofNat d).toNat=d:=by simp;omega
  have hv':vg (10*acc+(d-48)) l<=M:=hv;have h2:=WA l (10*acc+(d-48));have ih:=WB hM l (10*acc+(d-48)) (fun x hx=>hd x (by simp[hx])) hv';rw[aqo,parseUintM,at7 (by rw[e];exact h1),ak,at6 (by rw[e];omega),e,show acc*10+(d-48)=10*acc+(d-48)by omega,ih];rfl
def jU (op:Int):List Nat:=
 if 1<=op/\op<=2 then[100,44,117]
 else if op=3 then[100,44,105]
 else if op=4\/(19<=op/\op<=27)\/op=57 then[100,44,115,44,105]
 else if 5<=op/\op<=10 then[115,44,116,44,105]
 else if 11<=op/\op<=15 then[100,44,105,40,115,41]
 else if 16<=op/\op<=18 then[116,44,105,40,115,41]
 else if 28<=op/\op<=45 then[100,44,115,44,116]
 else if op=46 then[100,44,40,115,41]
 else if 47<=op/\op<=56 then[100,44,116,44,40,115,41]
 else[]
def dA (rd a b n:Int) (c:Nat):List Nat:=if c=100 then rg rd else if c=115 then rg a else if c=116 then rg b else if c=105 then num n else if c=117 then num (n/4096)else[c]
def nV (op rd a b n:Int):List Nat:=(jU op).flatMap (dA rd a b n)
variable {op :Int}
theorem vv (rd a b n:Int):dA rd a b n 100=rg rd:=rfl
theorem vw (rd a b n:Int):dA rd a b n 115=rg a:=rfl
theorem vz (rd a b n:Int):dA rd a b n 116=rg b:=rfl
theorem vB (rd a b n:Int):dA rd a b n 105=num n:=rfl
theorem vC (rd a b n:Int):dA rd a b n 117=num (n/4096):=rfl
theorem vD (rd a b n:Int):dA rd a b n 44=[44]:=rfl
theorem vE (rd a b n:Int):dA rd a b n 40=[40]:=rfl
theorem vF (rd a b n:Int):dA rd a b n 41=[41]:=rfl
theorem acs (h:1<=op/\op<=2):jU op=[100,44,117]:=by unfold jU;rw[at7 h]
theorem wr0 (h:1<=op/\op<=2)(rd a b n:Int):nV op rd a b n=rg rd++44::num (n/4096):=by unfold nV;rw[acs h];simp only[apL,aqg,vv,vw,vz,vB,vC,vD,vE,vF,apz,aqc,apZ,apO]
theorem acu (h:op=3):jU op=[100,44,105]:=by unfold jU;rw[ak,at7 h]
theorem wr1 (h:op=3)(rd a b n:Int):nV op rd a b n=rg rd++44::num n:=by unfold nV;rw[acu h];simp only[apL,aqg,vv,vw,vz,vB,vC,vD,vE,vF,apz,aqc,apZ,apO]
theorem RD (h:F2 op):jU op=[100,44,115,44,105]:=by unfold F2 at h;unfold jU;rw[ak,ak,at7 h]
theorem wr2 (h:F2 op)(rd a b n:Int):nV op rd a b n=rg rd++44::(rg a++44::num n):=by unfold nV;rw[RD h];simp only[apL,aqg,vv,vw,vz,vB,vC,vD,vE,vF,apz,aqc,apZ,apO]
theorem acv (h:5<=op/\op<=10):jU op=[115,44,116,44,105]:=by unfold jU;rw[ak,ak,ak,at7 h]
theorem wr3 (h:5<=op/\op<=10)(rd a b n:Int):nV op rd a b n=rg a++44::(rg b++44::num n):=by unfold nV;rw[acv h];simp only[apL,aqg,vv,vw,vz,vB,vC,vD,vE,vF,apz,aqc,apZ,apO]
theorem acw (h:11<=op/\op<=15):jU op=[100,44,105,40,115,41]:=by unfold jU;rw[ak,ak,ak,ak,at7 h]
theorem wr4 (h:11<=op/\op<=15)(rd a b n:Int):nV op rd a b n=rg rd++44::(num n++40::(rg a++[41])):=by unfold nV;rw[acw h];simp only[apL,aqg,vv,vw,vz,vB,vC,vD,vE,vF,apz,aqc,apZ,apO]
theorem acx (h:16<=op/\op<=18):jU op=[116,44,105,40,115,41]:=by unfold jU;rw[ak,ak,ak,ak,ak,at7 h]
theorem wr5 (h:16<=op/\op<=18)(rd a b n:Int):nV op rd a b n=rg b++44::(num n++40::(rg a++[41])):=by unfold nV;rw[acx h];simp only[apL,aqg,vv,vw,vz,vB,vC,vD,vE,vF,apz,aqc,apZ,apO]
theorem acy (h:28<=op/\op<=45):jU op=[100,44,115,44,116]:=by unfold jU;rw[ak,ak,ak,ak,ak,ak,at7 h]
theorem wr6 (h:28<=op/\op<=45)(rd a b n:Int):nV op rd a b n=rg rd++44::(rg a++44::rg b):=by unfold nV;rw[acy h];simp only[apL,aqg,vv,vw,vz,vB,vC,vD,vE,vF,apz,aqc,apZ,apO]
theorem acz (h:op=46):jU op=[100,44,40,115,41]:=by unfold jU;rw[ak,ak,ak,ak,ak,ak,ak,at7 h]
theorem wr7 (h:op=46)(rd a b n:Int):nV op rd a b n=rg rd++44::40::(rg a++[41]):=by unfold nV;rw[acz h];simp only[apL,aqg,vv,vw,vz,vB,vC,vD,vE,vF,apz,aqc,apZ,apO]
theorem acA (h:47<=op/\op<=56):jU op=[100,44,116,44,40,115,41]:=by unfold jU;rw[ak,ak,ak,ak,ak,ak,ak,ak,at7 h]
theorem wr8 (h:47<=op/\op<=56)(rd a b n:Int):nV op rd a b n=rg rd++44::(rg b++44::40::(rg a++[41])):=by unfold nV;rw[acA h];simp only[apL,aqg,vv,vw,vz,vB,vC,vD,vE,vF,apz,aqc,apZ,apO]
theorem acB (h:op<1\/58<=op):jU op=[]:=by unfold jU;rw[ak,ak,ak,ak,ak,ak,ak,ak,ak]
theorem wr9 (h:op<1\/58<=op)(rd a b n:Int):nV op rd a b n=[]:=by unfold nV;rw[acB h];simp only[apL,aqg,vv,vw,vz,vB,vC,vD,vE,vF,apz,aqc,apZ,apO]
theorem cls (h1:1<=op)(h2:op<=59):(1<=op/\op<=2)\/op=3\/F2 op\/(5<=op/\op<=10)\/(11<=op/\op<=15)\/(16<=op/\op<=18)\/(28<=op/\op<=45)\/op=46\/(47<=op/\op<=56)\/(op<1\/58<=op):=by unfold F2;omega
theorem z8 (h1:1<=op)(h2:op<=59)(rd a b n:Int):Ld op rd a b (nw op n)=if nV op rd a b n=[]then[]else 32::nV op rd a b n:=by
 unfold Ld nw;rcases cls h1 h2 with h|h|h|h|h|h|h|h|h|h
 ·rw[wr0 h,at6 (show¬(rg _++_=[])by simp[rg])];rw[ak,dU,dU]
 ·rw[wr1 h,at6 (show¬(rg _++_=[])by simp[rg])];rw[ak,dU,ak]
 ·rw[wr2 h,at6 (show¬(rg _++_=[])by simp[rg])];have h':=h;unfold F2 at h';rw[ak,ak,at7 h,ak]
 ·rw[wr3 h,at6 (show¬(rg _++_=[])by simp[rg])];have h2:¬F2 op:=(by unfold F2;omega);rw[ak,ak,at6 h2,dU,ak]
 ·rw[wr4 h,at6 (show¬(rg _++_=[])by simp[rg])];have h2:¬F2 op:=(by unfold F2;omega);rw[ak,ak,at6 h2,ak,dU,ak]
 ·rw[wr5 h,at6 (show¬(rg _++_=[])by simp[rg])];have h2:¬F2 op:=(by unfold F2;omega);rw[ak,ak,at6 h2,ak,ak,dU,ak]
 ·rw[wr6 h,at6 (show¬(rg _++_=[])by simp[rg])];have h2:¬F2 op:=(by unfold F2;omega);rw[ak,ak,at6 h2,ak,ak,ak,dU]
 ·rw[wr7 h,at6 (show¬(rg _++_=[])by simp[rg])];have h2:¬F2 op:=(by unfold F2;omega);rw[ak,ak,at6 h2,ak,ak,ak,ak,dU]
 ·rw[wr8 h,at6 (show¬(rg _++_=[])by simp[rg])];have h2:¬F2 op:=(by unfold F2;omega);rw[ak,ak,at6 h2,ak,ak,ak,ak,ak]
 ·rw[wr9 h,at7 rfl,dU]
end As
namespace As
open Go.ChangeShapes Go.WideShapes Go.ChangeAt Go.RowKit Mm

variable {w w' :World}
structure gz (w:World):Prop where
 tb:Dw.nK w
 pw : Lib.TabIs prog w "internal/strconv.uint64pow10" .u64 Lib.pow10Tab
 nm:∀k,k<59->w.cell? ⟨1,k+1,none⟩=some (str (names.getD k []))
 ad:∀k:Nat,k<4->w.cell? ⟨2,k,none⟩=some (str (Rz (k:Int)))
theorem vZ (G:Gr w w'){b o:Nat}{v:Value}(h:w.cell? ⟨b,o,none⟩=some v):w'.cell? ⟨b,o,none⟩=some v:=(G.cell _ (Dw.lt_of_cell h)).trans h
theorem gz.of (h:gz w)(G:Gr w w'):gz w':=⟨⟨fun i v e=>vZ G (h.tb.shapes i v e),fun i v e=>vZ G (h.tb.uppers i v e)⟩,Lib.tabBelow_of_tabIs h.pw w' G,fun k hk=>vZ G (h.nm k hk),fun k hk=>vZ G (h.ad k hk)⟩
structure Li (w:World):Prop where
 s:∃te pe,w.cell? ⟨8,0,none⟩=some (.iface te pe)
 r:∃te pe,w.cell? ⟨9,0,none⟩=some (.iface te pe)
theorem Li.of (h:Li w)(G:Gr w w'):Li w':=by obtain⟨⟨a,b,h1⟩,c,d,h2⟩:=h;exact⟨⟨a,b,vZ G h1⟩,c,d,vZ G h2⟩
theorem tH {n:Int}(h0 : -9223372036854775808<=n)(h1:n<=9223372036854775807)(T:gz w):Calls prog 96 #[.int .i64 n] w fun e w'=>e=.returned (str (num n))/\Gr w w':=(Tryz.strconv_Itoa n h0 h1 w T.pw).mono fun e w' ⟨he,k,os,hw⟩=>⟨by rw[he,Lh];rfl,hw ▸ Lib.below_grow _ w (apn _) k os⟩
theorem kJ {n:Int}(h0 : -2147483648<=n)(h1:n<2147483648)(T:gz w):Calls prog 95 #[.int .i64 n] w fun e w'=>e=.returned (str (rg n))/\Gr w w':=by
 have HD:Hid (Calls prog 96 #[.int .i64 n] w fun e w'=>e=.returned (str (num n))/\Gr w w'):=tH (by omega) (by omega) T;have hl:¬9223372036854775807<1+(num n).length:=by have:=mQ (n:=n) (by omega) (by omega);omega
 unfold rg;generalize num n=a at *
 go_enter func95,ntmps95;go_wp2_with fail;refine HD.out.mono ?_;rintro e w1 ⟨rfl,G1⟩;unfold str;go_wp2_with fail;go_ret;exact⟨congrArg Ending.returned (mP [120] _),G1⟩
end As
namespace As
open Go.ChangeShapes Go.WideShapes Go.ChangeAt Go.RowKit Mm

theorem wh {H:Type}{enc:TypeId×Value→H}{P:Program}{W:World}{base:Nat}{spare:Nat→Bool}{held:Bool}{fuel:Nat}{t e:TypeId}{n:Nat}{cs:List Value}{ds:List (DataW H)}{ps:List MemPlace}(ht:P.underlying t=some (.array n e))(he:P.underlying e=some .string)(hc:P.cellsOf e=1)(h:DataW.trod enc P W base spare held fuel t cs=some (.agg ds,ps)){i:Nat}(hi:i<n){l:List UInt8}(hd:ds[i]?=some (.lit (.string l))):cs[i]?=some (.string ⟨l.toArray⟩):=by
 obtain⟨xs,m,rfl,hx,_,hlen,hel⟩:=DataW.trod_array ht h;simp only[auX,DataW.agg.injEq]at hx;have hE:=hel i hi;rw[hx.1,apT]at hd;cases hy:xs[i]? with
 |none=>simp[hy]at hd
 |some y=>
  rw[hy]at hE hd;simp at hd;obtain⟨s,h1,h2,_⟩:=DataW.trod_string he hE;rw[h2]at hd;simp only[DataW.lit.injEq,Lit.string.injEq]at hd;rw[hc,Nat.mul_one]at h1;have:((cs.drop i).take 1)[0]?=some (.string s):=by rw[h1];rfl
  have:=Dw.jI _ _ _ _ _ this;rw[aqt]at this;rw[this,<-hd]
theorem XJ : prog.globalNamed "ferrybridge/asm.names" = some 1 := by kernel_rfl
theorem XK : prog.globalNamed "ferrybridge/asm.added" = some 2 := by kernel_rfl
theorem agb : prog.globalNamed "internal/strconv.uint64pow10" = some 5 := by kernel_rfl
theorem gEs : prog.globalNamed "strconv.ErrSyntax" = some 8 := by kernel_rfl
theorem gEr : prog.globalNamed "strconv.ErrRange" = some 9 := by kernel_rfl
theorem XM:(prog.globals[1]?).map (·.type)=some 152:=by kernel_rfl
theorem XN:(prog.globals[2]?).map (·.type)=some 153:=by kernel_rfl
theorem agc:(prog.globals[5]?).map (·.type)=some 250:=by kernel_rfl
theorem tEs:(prog.globals[8]?).map (·.type)=some 78:=by kernel_rfl
theorem tEr:(prog.globals[9]?).map (·.type)=some 78:=by kernel_rfl
theorem sF:prog.cellsOf 9=1:=by kernel_rfl
theorem WC:prog.cellsOf 280=1:=by kernel_rfl
theorem agd:prog.cellsOf 173=1:=by kernel_rfl
theorem age:prog.cellsOf 250=20:=by kernel_rfl
theorem star : "*" ++ "errors.errorString" = "*errors.errorString" := by decide
theorem acC (u : TypeId)(h : prog.typeName? 3 u = some "*errors.errorString") : u = 278 :=
 typeName_ptr_named (nm := "errors.errorString") (by rw [star]; kernel_rfl) (by kernel_rfl) (by decide) u (by rw [star]; exact h)
abbrev Lm:=List (String×DataW Unit)
theorem agf:(Rows.laid_internal_strconv_uint64pow10:DataW Unit)=Lib.tabData .u64 Lib.pow10Tab:=by kernel_rfl
theorem agh {k:Nat}(h:k<59):(match (Rows.laid_ferrybridge_asm_names:DataW Unit)with|.agg ds=>ds[k+1]?|_=>none)=some (.lit (.string ((names.getD k []).map UInt8.ofNat))):=by
 have:∀k:Fin 59,(match (Rows.laid_ferrybridge_asm_names:DataW Unit)with|.agg ds=>ds[k.val+1]?|_=>none)=some (.lit (.string ((names.getD k.val []).map UInt8.ofNat))):=by
  intro k;have e:(List.range 59).map (fun k=>match (Rows.laid_ferrybridge_asm_names:DataW Unit)with|.agg ds=>ds[k+1]?|_=>none)=(List.range 59).map (fun k=>some (.lit (.string ((names.getD k []).map UInt8.ofNat)))):=by kernel_rfl
  have:=congrArg (·[k.val]?) e;simpa[k.isLt]using this
 exact this ⟨k,h⟩
theorem agi {k:Nat}(h:k<4):(match (Rows.laid_ferrybridge_asm_added:DataW Unit)with|.agg ds=>ds[k]?|_=>none)=some (.lit (.string ((Rz (k:Int)).map UInt8.ofNat))):=by
 match k,h with
 |0,_=>rfl
 |1,_=>rfl
 |2,_=>rfl
 |3,_=>rfl
theorem XO {W : World}{x y : String × DataW Unit}{r r' : Lm}(h : laidMet prog (("ferrybridge/decode.shapes", Rows.laid_ferrybridge_decode_shapes) :: ("ferrybridge/decode.uppers", Rows.laid_ferrybridge_decode_uppers) :: x :: y :: ("internal/strconv.uint64pow10", Rows.laid_internal_strconv_uint64pow10) :: r) W)
  (h' : laidMet prog (("ferrybridge/asm.names", Rows.laid_ferrybridge_asm_names) :: ("ferrybridge/asm.added", Rows.laid_ferrybridge_asm_added) :: r') W) : gz W := by
 have hp:=h.tail.tail.tail.tail;rw[agf]at hp;refine⟨?_,Lib.tabIs_of_head agb agc underlying250 underlying173 agd age hp,?_,?_⟩
 ·obtain⟨ps,⟨g0,t0,cs0,f0,p0,q0,hg0,ht0,hv0,hd0,⟨g1,t1,cs1,f1,p1,q1,hg1,ht1,hv1,hd1,_,_⟩,_⟩,_,_⟩:=h;obtain rfl:=aum (Dw.Fh.symm.trans hg0);obtain rfl:=aum (Dw.Fj.symm.trans hg1);obtain rfl:=aum (Dw.Fp.symm.trans ht0);obtain rfl:=aum (Dw.Fs.symm.trans ht1);refine⟨fun i v hi=>?_,fun i n hi=>?_⟩
  ·have:=Dw.dN 5 hd0 (Dw.jB Dw.sZ hi);rw[auH hg0 hv0 i];simpa using this
  ·have:=Dw.dN 3 hd1 (Dw.jB (l:=Dc.uppers.map fun n=>.int .u32 n) (i:=i) (v:=.int .u32 n) (by rw[Dw.tC];simp[auY]) (by simp[hi]));rw[auH hg1 hv1 i];simpa using this
 ·obtain⟨ps,⟨g0,t0,cs0,f0,p0,q0,hg0,ht0,hv0,hd0,_,_⟩,_,_⟩:=h';obtain rfl:=aum (XJ.symm.trans hg0);obtain rfl:=aum (XM.symm.trans ht0);intro k hk;have e:=agh hk;unfold Rows.laid_ferrybridge_asm_names at e hd0;have:=wh underlying152 underlying9 sF hd0 (i:=k+1) (by omega) e;rw[auH hg0 hv0 (k+1)];simpa[str]using this
 ·obtain⟨ps,⟨g0,t0,cs0,f0,p0,q0,hg0,ht0,hv0,hd0,_,_⟩,_,_⟩:=h'.tail;obtain rfl:=aum (XK.symm.trans hg0);obtain rfl:=aum (XN.symm.trans ht0);intro k hk;have e:=agi hk;unfold Rows.laid_ferrybridge_asm_added at e hd0;have:=wh underlying153 underlying9 sF hd0 (i:=k) hk e;rw[auH hg0 hv0 k];simpa[str]using this
theorem XP {W : World}{r : Lm}(h : laidMet prog (("strconv.ErrRange", Rows.laid_strconv_ErrRange) :: ("strconv.ErrSyntax", Rows.laid_strconv_ErrSyntax) :: r) W) : Li W := by
 obtain⟨a0,s0,hv0, -, -, -⟩:=laid_sentinel h gEr tEr underlying78 acC underlying278 underlying280 rfl rfl underlying9 WC sF;obtain⟨a1,s1,hv1, -, -, -⟩:=laid_sentinel h.tail gEs tEs underlying78 acC underlying278 underlying280 rfl rfl underlying9 WC sF;exact⟨⟨_,_,by have h0:=auH gEs hv1 0;simpa using h0⟩,_,_,by have h0:=auH gEr hv0 0;simpa using h0⟩
def WE {H : Type} : List (String × DataW H) := [("ferrybridge/decode.shapes", Rows.laid_ferrybridge_decode_shapes), ("ferrybridge/decode.uppers", Rows.laid_ferrybridge_decode_uppers), ("math/bits.deBruijn32tab", Rows.laid_math_bits_deBruijn32tab), ("math/bits.deBruijn64tab", Rows.laid_math_bits_deBruijn64tab), ("internal/strconv.uint64pow10", Rows.laid_internal_strconv_uint64pow10), ("strconv.ErrRange", Rows.laid_strconv_ErrRange), ("strconv.ErrSyntax", Rows.laid_strconv_ErrSyntax), ("ferrybridge/asm.names", Rows.laid_ferrybridge_asm_names), ("ferrybridge/asm.added", Rows.laid_ferrybridge_asm_added)]
theorem agj {W:World}(h:laidMetH prog WE W):gz W/\Li W:=by rw[auZ _ _ _ (by kernel_rfl)]at h;exact⟨XO h h.tail.tail.tail.tail.tail.tail.tail,XP h.tail.tail.tail.tail.tail⟩
end As
namespace Ts
open Go.ChangeShapes Go.WideShapes Go.ChangeAt Go.RowKit Mm

variable {w :World} {ao :Option Addr} {n :Int}
structure Iv where
 op:Int
 rd:Int
 r1:Int
 r2:Int
 im:Int
def Lj (i:Iv):List Value:=[.int .i64 i.op,.int .i64 i.rd,.int .i64 i.r1,.int .i64 i.r2,.int .i32 i.im]
def WG (n:Int):Prop := -9223372036854775808<=n/\n<=9223372036854775807
structure Iv.Ok (i:Iv):Prop where
 op:WG i.op
 rd:WG i.rd
 r1:WG i.r1
 r2:WG i.r2
 im : -2147483648<=i.im/\i.im<=2147483647
structure Is (w:World) (ao:Option Addr) (n:Nat) (is:List Iv):Prop where
 len:is.length=n
 ok:∀i∈is,i.Ok
 spot:0<n->∃b o,ao=some ⟨b,o,none⟩/\b<w.heap.size/\∀j i,is[j]?=some i->w.cell? ⟨b,o+j*5,none⟩=some (.int .i64 i.op)/\w.cell? ⟨b,o+j*5+1,none⟩=some (.int .i64 i.rd)/\w.cell? ⟨b,o+j*5+2,none⟩=some (.int .i64 i.r1)/\w.cell? ⟨b,o+j*5+3,none⟩=some (.int .i64 i.r2)/\w.cell? ⟨b,o+j*5+4,none⟩=some (.int .i32 i.im)
theorem Is.of {w':World}{n:Nat}{is:List Iv}(h:Is w ao n is)(g:Gr w w'):Is w' ao n is:=
 ⟨h.len,h.ok,fun hn=>by
  obtain⟨b,o,e,hb,hc⟩:=h.spot hn;refine⟨b,o,e,apq hb g.size,fun j i hj=>?_⟩;obtain⟨h0,h1,h2,h3,h4⟩:=hc j i hj;exact⟨(g.cell _ (by exact hb)).trans h0,(g.cell _ (by exact hb)).trans h1,(g.cell _ (by exact hb)).trans h2,(g.cell _ (by exact hb)).trans h3,(g.cell _ (by exact hb)).trans h4⟩⟩
end Ts
namespace Kc
open Go.ChangeShapes Go.WideShapes Go.ChangeAt Go.RowKit Mm Ts

structure Bv where
 pc:Int
 is:List Iv
def place (pc:Int):List Bv→Nat→Int
 | [],_ => -1
 |b::bs,k=>if b.pc=pc then(k:Int)else place pc bs (k+1)
def hasB (b:Bv) (f t:Int):Bool:=decide (max b.pc f<min (b.pc+4*(b.is.length:Int)) t)
def Bc (w:World) (b:Bv) (x y:Value):Prop:=x=.int .u32 b.pc/\(0<=b.pc/\b.pc<4294967296)/\∃sa sn sc,y=.slice sa sn sc/\Is w sa sn b.is/\sn*40<=140737488351232
theorem Bc.of {w w':World}{b:Bv}{x y:Value}(h:Bc w b x y)(G:Gr w w'):Bc w' b x y:=by obtain⟨e,p,sa,sn,sc,e2,I,hb⟩:=h;exact⟨e,p,sa,sn,sc,e2,I.of G,hb⟩
structure Bs (w:World) (ao:Option Addr) (n:Nat) (bs:List Bv):Prop where
 len:bs.length=n
 spot:0<n->∃b o,ao=some ⟨b,o,none⟩/\b<w.heap.size/\∀j x,bs[j]?=some x->∃u v,w.cell? ⟨b,o+j*2,none⟩=some u/\w.cell? ⟨b,o+j*2+1,none⟩=some v/\Bc w x u v
theorem Bs.of {w w':World}{ao:Option Addr}{n:Nat}{bs:List Bv}(h:Bs w ao n bs)(g:Gr w w'):Bs w' ao n bs:=
 ⟨h.len,fun hn=>by
  obtain⟨b,o,e,hb,hc⟩:=h.spot hn;refine⟨b,o,e,apq hb g.size,fun j i hj=>?_⟩;obtain⟨u,v,h0,h1,h2⟩:=hc j i hj;exact⟨u,v,(g.cell _ (by exact hb)).trans h0,(g.cell _ (by exact hb)).trans h1,h2.of g⟩⟩
theorem Aa {pc:Int}:∀{bs:List Bv} {j k:Nat} {x:Bv},bs[j]?=some x→x.pc=pc→(∀(i:Nat) (y:Bv),i<j→bs[i]?=some y→¬y.pc=pc)→place pc bs k=((k+j:Nat):Int)
 | [],j,k,x,h,_,_=>by simp at h
 |b::r,0,k,x,h,e,_=>by
  simp at h;subst h;unfold place;rw[at7 e,aqt]
 |b::r,j+1,k,x,h,e,hn=>by
  unfold place;rw[at6 (hn 0 b (by omega) rfl)];have:=Aa (k:=k+1) (bs:=r) (j:=j) (by simpa using h) e fun i y hi hy=>hn (i+1) y (by omega) (by simpa using hy)
  rw[this];congr 1;omega
end Kc
namespace Kc
open Go.ChangeShapes Go.WideShapes Go.ChangeAt Go.RowKit Mm Ts

end Kc
namespace Kc
open Go.ChangeShapes Go.WideShapes Go.ChangeAt Go.RowKit Mm Ts

end Kc
namespace Hh
open Go.ChangeShapes Go.WideShapes Go.ChangeAt Go.RowKit Mm

structure Hv where
 regs:List Int
 pc:Int
 held:Bool
 aP:Int
 state:Int
 cause:Int
def hL (h:Hv):List Value:=h.regs.map (Value.int .u32)++[.int .u32 h.pc,.bool h.held,.int .u32 h.aP,.int .i64 h.state,.int .i64 h.cause]
def hA (h:Hv):Array Value:=(hL h).toArray
def rg (h:Hv) (i:Nat):Int:=h.regs.getD i 0
structure Hv.Ok (h:Hv):Prop where
 len:h.regs.length=32
 reg:∀i,0<=rg h i/\rg h i<4294967296
 nH:0<=h.pc
 jV:h.pc<4294967296
 x9:0<=h.aP
 zO:h.aP<4294967296
def Hv.set (h:Hv) (r:Nat) (x:Int):Hv:=if r=0 then h else { h with regs:=h.regs.set r x }
def Hv.go (h:Hv) (x:Int):Hv:={ h with pc:=x }
def Hv.trap (h:Hv) (c:Int):Hv:={ h with state:=2,cause:=c }
def Hv.hold (h:Hv) (b:Bool) (x:Int):Hv:={ h with held:=b,aP:=x }
def Hv.halt (h:Hv):Hv:={ h with state:=1 }
theorem Ll (h:Hv)(r:Nat)(x:Int)(i:Nat):rg { h with regs:=h.regs.set r x } i=if i=r/\r<h.regs.length then x else rg h i:=by
 unfold rg;simp only[List.getD,ap1];by_cases e:r=i
 ·subst e;by_cases l:r<h.regs.length
  ·simp[l]
  ·simp[l]
 ·have e2:¬i=r:=fun q=>e q.symm
  simp[e,e2]
theorem Hv.Ok.set {h:Hv}(o:h.Ok)(r:Nat){x:Int}(h0:0<=x)(h1:x<4294967296):(h.set r x).Ok:=by
 unfold Hv.set;split
 ·exact o
 ·refine⟨by simp[o.len],fun i=>?_,o.nH,o.jV,o.x9,o.zO⟩;rw[Ll];split
  ·exact⟨h0,h1⟩
  ·exact o.reg i
theorem Hv.Ok.go {h:Hv}(o:h.Ok){x:Int}(h0:0<=x)(h1:x<4294967296):(h.go x).Ok:=⟨o.len,o.reg,h0,h1,o.x9,o.zO⟩
theorem Hv.Ok.trap {h:Hv}(o:h.Ok)(c:Int):(h.trap c).Ok:=⟨o.len,o.reg,o.nH,o.jV,o.x9,o.zO⟩
theorem Hv.Ok.halt {h:Hv}(o:h.Ok):h.halt.Ok:=⟨o.len,o.reg,o.nH,o.jV,o.x9,o.zO⟩
theorem Hv.Ok.hold {h:Hv}(o:h.Ok)(b:Bool){x:Int}(h0:0<=x)(h1:x<4294967296):(h.hold b x).Ok:=⟨o.len,o.reg,o.nH,o.jV,h0,h1⟩
theorem aD {h:Hv}(o:h.Ok):(hL h).length=37:=by simp[hL,o.len]
theorem jC {h:Hv}(o:h.Ok):(hA h).size=37:=by simp[hA,aD o]
theorem lC {h:Hv}(o:h.Ok){i:Nat}(hi:i<32):(hL h)[i]?=some (.int .u32 (rg h i)):=by have:=o.len;unfold hL;rw[apA (by simp;omega),apT,api (by omega)];simp[rg,List.getD,api (show i<h.regs.length by omega)]
theorem aW {h:Hv}(o:h.Ok)(j:Nat):(hL h)[32+j]?=[Value.int .u32 h.pc,.bool h.held,.int .u32 h.aP,.int .i64 h.state,.int .i64 h.cause][j]?:=by unfold hL;rw[apv (by simp[o.len])];simp[o.len]
theorem yc {h:Hv}(o:h.Ok){i:Nat}(hi:i<32)(x:Int):(hL h).set i (.int .u32 x)=hL { h with regs:=h.regs.set i x }:=by have:=o.len;unfold hL;rw[aqn _ _ (by simp;omega),List.map_set]
theorem C8 {h:Hv}(o:h.Ok)(x:Int):(hL h).set 32 (.int .u32 x)=hL { h with pc:=x }:=by unfold hL;rw[apJ _ _ (by simp[o.len])];simp[o.len]
theorem jW {h:Hv}(o:h.Ok)(x:Bool):(hL h).set 33 (.bool x)=hL { h with held:=x }:=by unfold hL;rw[apJ _ _ (by simp[o.len])];simp[o.len]
theorem gI {h:Hv}(o:h.Ok)(x:Int):(hL h).set 34 (.int .u32 x)=hL { h with aP:=x }:=by unfold hL;rw[apJ _ _ (by simp[o.len])];simp[o.len]
theorem mR {h:Hv}(o:h.Ok)(x:Int):(hL h).set 35 (.int .i64 x)=hL { h with state:=x }:=by unfold hL;rw[apJ _ _ (by simp[o.len])];simp[o.len]
theorem wm {h:Hv}(o:h.Ok)(x:Int):(hL h).set 36 (.int .i64 x)=hL { h with cause:=x }:=by unfold hL;rw[apJ _ _ (by simp[o.len])];simp[o.len]
theorem qC (h:Hv):(hA h).all (·.oneCell')=true:=by refine auE ?_;intro v hv;simp only[hL,apR,apK,apx,apB,auw]at hv;rcases hv with⟨n,_,rfl⟩|rfl|rfl|rfl|rfl|rfl<;>rfl
theorem ag {a w:World}(h:Gr a w){g:Nat}(hg:a.heap.size<=g)(cs:Array Value):Gr a (w.setRow g cs):=below_setRow h hg cs
end Hh
namespace Hh
open Mm Wd

def opn (op:Int):Int:=if op=19 then 28 else if op=20 then 31 else if op=21 then 32 else if op=22 then 33 else if op=23 then 36 else if op=24 then 37 else if op=25 then 30 else if op=26 then 34 else 35
structure Ev where
 h:Hv
 m:List UInt8
 out:List Int
 av:List (Int×Int)
 res:Option Int
def bF (h:Hv) (l:List UInt8) (op at':Int):Ev:=if bM l op at'=true then⟨h,l,[],[],some (aN l op at')⟩else⟨h.trap 3,l,[],[],none⟩
def aH (h:Hv) (l:List UInt8) (op at' b:Int):Ev:=if dX l op at'=true then⟨h,il l op at' b,[],[(at',(gG op:Nat))],none⟩else⟨h.trap 4,l,[],[],none⟩
def gB (h:Hv) (l:List UInt8) (a:Int):Ev:=if bM l 13 a=true then⟨h.hold true a,l,[],[],some (aN l 13 a)⟩else⟨h.trap 3,l,[],[],none⟩
def eU (h:Hv) (l:List UInt8) (a b:Int):Ev:=if bM l 13 a=true then(if h.held=true/\h.aP=a then⟨h.hold false 0,il l 18 a b,[],[(a,4)],some 0⟩else⟨h.hold false 0,l,[],[],some 1⟩)else⟨h.trap 4,l,[],[],none⟩
def iN (h:Hv) (l:List UInt8) (op a b:Int):Ev:=if bM l 13 a=true then⟨h,il l 18 a (mO op (aN l 13 a) b),[],[(a,4)],some (aN l 13 a)⟩else⟨h.trap 4,l,[],[],none⟩
def aK (h:Hv) (l:List UInt8) (op a b:Int):Ev:=if op=46 then gB h l a else if op=47 then eU h l a b else iN h l op a b
def bA (h:Hv) (l:List UInt8):Ev:=if rg h 17=0 then⟨h.halt,l,[],[],none⟩else if rg h 17=1 then⟨h,l,[rg h 10],[],none⟩else⟨h.trap 5,l,[],[],none⟩
def fT (h:Hv) (l:List UInt8) (op a b n:Int):Ev:=
 if op=1 then⟨h,l,[],[],some n⟩else if op=2 then⟨h,l,[],[],some (lo (h.pc+n))⟩else if op=3\/op=4 then⟨h,l,[],[],some (lo (h.pc+4))⟩
 else if 11<=op/\op<=15 then bF h l op (lo (a+n))else if 16<=op/\op<=18 then aH h l op (lo (a+n)) b
 else if 19<=op/\op<=27 then⟨h,l,[],[],some (eT (opn op) a n)⟩else if 28<=op/\op<=45 then⟨h,l,[],[],some (eT op a b)⟩
 else if 46<=op/\op<=56 then aK h l op a b else if op=58 then bA h l else if op=59 then⟨h.trap 6,l,[],[],none⟩else⟨h,l,[],[],none⟩
def qD (h:Hv) (op a b n:Int):Int:=if op=4 then lo (a+n)-lo (a+n)%2 else if op=3\/holds op a b=true then lo (h.pc+n)else lo (h.pc+4)
structure Sv where
 h:Hv
 m:List UInt8
 out:List Int
 av:List (Int×Int)
def Hv.put (h:Hv) (rd:Nat):Option Int→Hv
 |some x=>h.set rd x
 |none=>h
def Hv.on (h:Hv) (x:Int):Hv:=if h.state=0 then h.go x else h
def done (e:Ev) (rd:Nat) (nx:Int):Sv:=⟨(e.h.put rd e.res).on nx,e.m,e.out,e.av⟩
def ins (h:Hv) (l:List UInt8) (op rd r1 r2 im:Int):Sv:=done (fT h l op (rg h r1.toNat) (rg h r2.toNat) (lo im)) rd.toNat (qD h op (rg h r1.toNat) (rg h r2.toNat) (lo im))
def oW (h:Hv) (l:List UInt8) (x:Int):Sv:=if Dc.aO x=0 then⟨h.trap 2,l,[],[]⟩else ins h l (Dc.aO x) (Dc.iF (Dc.aJ (Dc.aO x)) x) (Dc.bZ (Dc.aJ (Dc.aO x)) x) (Dc.bV (Dc.aJ (Dc.aO x)) x) (Dc.bS (Dc.aJ (Dc.aO x)) x)
def dV (h:Hv) (l:List UInt8):Sv:=if bM l 13 h.pc=true then oW h l (aN l 13 h.pc)else⟨h.trap 1,l,[],[]⟩
def may (h:Hv):Bool:=decide (rg h 0=0/\(h.held=false->h.aP=0)/\(((h.state=0\/h.state=1)/\h.cause=0)\/(h.state=2/\1<=h.cause/\h.cause<=6)))
end Hh
end Go.Proofs.YtiadhbmnfjfioaaGreatDoor
