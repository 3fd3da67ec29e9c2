/- ours -/
import Derived.Test.YtiadhbmnfjfioaaGreatDoorX01
import Derived.Lib.SliceRun
import Derived.Deep.RegionHeld3
set_option linter.unusedVariables false
set_option linter.unusedSimpArgs false
set_option maxHeartbeats 8000000
set_option maxRecDepth 100000
set_option linter.unusedSectionVars false
namespace Go.Proofs.YtiadhbmnfjfioaaGreatDoor
open Go.Proofs.Tryz hiding cs wide
open Go.ChangeShapes Go.WideShapes Go.ChangeAt Go.RowKit
variable{K:Act->World->Prop}{ops:Array Oper}{c:Array Value}{a pc f t:Int}{k:IntKind}{ss:List (Int×Int)}{os:List Int}{l:List UInt8}{ys vs xs:List Value}{size base m n g:Nat}{x:Obj}{o:Oper}{ao:Option Addr}{P:Program}{E:Prop}{y V v:Value}{w w':World}
namespace Mm
theorem oZ (op:Int)(w:World):Calls prog 90 #[.int .i64 op] w fun e w'=>e=.returned (.int .u32 (mM op:Nat))/\w'=w:=by
 go_enter func90,ntmps90;go_wp2
 all_goals
  go_ret;refine⟨au ?_,rfl⟩;simp only[auU,aub,ne_eq]at *
  unfold mM;repeat' split
  all_goals omega
theorem nL (op:Int)(w:World):Calls prog 202 #[.int .i64 op] w fun e w'=>e=.returned (.int .u32 (gG op:Nat))/\w'=w:=by
 go_enter func202,ntmps202;go_wp2
 all_goals
  go_ret;refine⟨au ?_,rfl⟩;simp only[auU,aub,ne_eq]at *
  unfold gG;repeat' split
  all_goals omega
theorem dE (ao:Option Addr)(n cap:Nat)(s:Nat)(a:Int)(w:World)(hn:n<=140737488351232)(hs:s<=4)(h0:0<=a)(h1:a<4294967296):Calls prog 91 #[.slice ao n cap,.int .u32 (s:Nat),.int .u32 a] w fun e w'=>e=.returned (.bool (qy n s a))/\w'=w:=by
 by_cases hs0:s=0
 ·subst hs0;go_enter func91,ntmps91;go_wp2;go_ret;exact⟨aM (KZ ab),rfl⟩
 by_cases hm:a%(s:Int)=0
 ·by_cases hl:a+s<=n
  ·go_enter func91,ntmps91;go_wp2;go_ret;exact⟨aM (acj ab hm hl),rfl⟩
  ·go_enter func91,ntmps91;go_wp2;go_ret;exact⟨aM (KZ ab),rfl⟩
 ·go_enter func91,ntmps91;go_wp2;go_ret;exact⟨aM (KZ ab),rfl⟩
theorem Ac (op x :Int) (w :World) (h0 :0 <= x) (h1 :x < 4294967296) (h8 :op =11 -> x < 256) (h16 :op =12 -> x < 65536) :Calls prog 92 #[.int .i64 op, .int .u32 x] w fun e w' => e = .returned (.int .u32 (wide op x)) /\ w' =w :=by
  go_enter func92, ntmps92;go_wp2
  all_goals
    go_ret;refine⟨au ?_, rfl⟩;simp only[auU, aub, ne_eq]at *
    unfold wide
    first
      | (have hq : op = 11 := by assumption
         rw[Rv x h0 (h8 hq)]; simp[hq])
      | (have hq : op = 12 := by assumption
         rw[K4 x h0 (h16 hq)]; simp[hq])
      | (have hq : ¬ op = 11 := by assumption
         have hr : ¬ op =12 :=bo;simp[hq, hr])
theorem Lu (b o n cap:Nat)(l:List UInt8)(op:Int)(a:Nat)(w:World)(hn:n≤140737488351232)(hl:l.length=n)(ha:a<4294967296)(hc:∀t,t<n->w.cell? ⟨b,o+t,none⟩=some (.int .u8 (bv l t)))(hok:qy n (mM op) (a:Int)=true):Calls prog 64 #[.slice (some ⟨b,o,none⟩) n cap,.int .i64 op,.int .u32 a] w fun e w'=>e=.returned (.tuple #[.int .u32 (wide op (raw l a (mM op))),.bool true])/\w'=w:=by
 have hs:=CX op;have hk:=hok;simp only[qy,auk]at hk;obtain⟨k0,k1,k2⟩:=hk;have hroom:=K5 k1 ha k0;go_enter func64,ntmps64;go_wp2_with (first|(go_at_call 90;refine(oZ _ _).mono ?_;rintro e w' ⟨rfl,rfl⟩)|(go_at_call 91;refine(dE _ _ _ _ _ _ hn hs ab ab).mono ?_;rintro e w' ⟨rfl,rfl⟩));go_loop [9,19] (fun x i=>∃k:Nat,k<=mM op/\i=.int .u32 k/\x=.int .u32 (raw l a k)) (fun _ i=>mM op-(intOf i).toNat)
 case atStart=>exact⟨0,apF _,rfl,rfl⟩
 case round=>
  obtain⟨k,hk,rfl,rfl⟩:=hrel;have rb:=kI l a k;have bb:=Wx l (a+k);by_cases hlt:k<mM op
  ·have hck:=hc (a+k) ab;have hk4:k<4:=ab;have hw:(a+k)%4294967296=a+k:=ab;have HR:Hid (bits .or .u32 (raw l a k) (bv l (a+k)*2 ^ (8*k)%4294967296)=raw l a (k+1)):=Rx _ _ k hk4 rb.1 rb.2 bb.1 bb.2;go_wp2;go_round
   case rel=>exact⟨k+1,ab,by go_num,by rw[HR.out]⟩
   case measure=>simp[intOf];omega
  ·obtain rfl:k=mM op:=ab;have rx:=Fb l a op;have HX:Hid (wide op (raw l a (mM op))=wide op (raw l a (mM op))):=rfl;go_wp2_with (go_at_call 92;refine(Ac _ _ _ rb.1 rx.1 rx.2.1 rx.2.2).mono ?_;rintro e w' ⟨rfl,rfl⟩);go_ret2;exact⟨rfl,rfl⟩
theorem RP (ao:Option Addr)(n cap:Nat)(op a:Int)(w:World)(hn:n<=140737488351232)(h0:0<=a)(h1:a<4294967296)(hok:qy n (mM op) a=false):Calls prog 64 #[.slice ao n cap,.int .i64 op,.int .u32 a] w fun e w'=>e=.returned (.tuple #[.int .u32 0,.bool false])/\w'=w:=by have hs:=CX op;go_enter func64,ntmps64;go_wp2_with (first|(go_at_call 90;refine(oZ _ _).mono ?_;rintro e w' ⟨rfl,rfl⟩)|(go_at_call 91;refine(dE _ _ _ _ _ _ hn hs ab ab).mono ?_;rintro e w' ⟨rfl,rfl⟩));go_ret2;exact⟨rfl,rfl⟩
theorem dY (cap:Nat)(op a:Int)(M:Mem w ao n l)(hn:n<=140737488351232)(h0:0<=a)(h1:a<4294967296):Calls prog 64 #[.slice ao n cap,.int .i64 op,.int .u32 a] w fun e w'=>e=.returned (.tuple #[.int .u32 (aN l op a),.bool (bM l op a)])/\w'=w:=by
 have hl:=M.len;cases hok:qy n (mM op) a with
 |false=>
  have e1:bM l op a=false:=by unfold bM;rw[hl];exact hok
  have e2:aN l op a=0:=by unfold aN;rw[e1];rfl
  rw[e1,e2];exact RP ao n cap op a w hn h0 h1 hok
 |true=>
  have e1:bM l op a=true:=by unfold bM;rw[hl];exact hok
  have e2:aN l op a=wide op (raw l a.toNat (mM op)):=by unfold aN;rw[e1];rfl
  rw[e1,e2];obtain⟨b,o,rfl,_,hc⟩:=M.spot (xY hok h0);obtain⟨a,rfl⟩:=apt h0;exact Lu b o n cap l op a w hn hl ab hc hok
theorem lD (ao:Option Addr)(n cap:Nat)(op a x:Int)(w:World)(hn:n<=140737488351232)(h0:0<=a)(h1:a<4294967296)(hok:qy n (gG op) a=false):Calls prog 189 #[.slice ao n cap,.int .i64 op,.int .u32 a,.int .u32 x] w fun e w'=>e=.returned (.tuple #[.slice none 0 0,.bool false])/\w'=w:=by have hs:=qz op;go_enter func189,ntmps189;go_wp2_with (first|(go_at_call 202;refine(nL _ _).mono ?_;rintro e w' ⟨rfl,rfl⟩)|(go_at_call 91;refine(dE _ _ _ _ _ _ hn hs ab ab).mono ?_;rintro e w' ⟨rfl,rfl⟩));go_ret2;exact⟨rfl,rfl⟩
theorem iZ (b o n cap:Nat)(l:List UInt8)(op x:Int)(a:Nat)(w:World)(hn:n≤140737488351232)(hl:l.length=n)(ha:a<4294967296)(hb:b<w.heap.size)(hx0:0≤x)(hx1:x<4294967296)(hc:∀t,t<n->w.cell? ⟨b,o+t,none⟩=some (.int .u8 (bv l t)))(hok:qy n (gG op) (a:Int)=true):Calls prog 189 #[.slice (some ⟨b,o,none⟩) n cap,.int .i64 op,.int .u32 a,.int .u32 x] w fun e w'=>e=.returned (.tuple #[.slice (some ⟨w.heap.size,0,none⟩) n n,.bool true])/\qB w' w.heap.size n (put l a x (gG op))/\Gr w w':=by
 have hs:=qz op;have hk:=hok;simp only[qy,auk]at hk;obtain⟨k0,k1,k2⟩:=hk;have hroom:=K6 k1 ha k0;obtain⟨i0,hi,hz0,hz1,hz2⟩:=auz info5;have HC:=kH hc;go_enter func189,ntmps189
 go_wp2_with (first
  |(go_at_call 202;refine(nL _ _).mono ?_;rintro e w' ⟨rfl,rfl⟩)
  |(go_at_call 91;refine(dE _ _ _ _ _ _ hn hs ab ab).mono ?_;rintro e w' ⟨rfl,rfl⟩)
  |(at_make;refine wpList_make_full _ rfl _ _ 25 rfl _ 5 i0 (.int .u8 0) 1 underlying25 hi hz0 hz1 _ _ _ _ n rfl rfl rfl rfl (by rw[hz2];omega) bj (apn _) ?_;intro w0 hown0 tJ;obtain⟨cur,hcl,hcg⟩:=K7 hown0;have B0:=(Gr.refl _).grown tJ (fun k h=>by cases h);clear hown0 tJ)
  |(refine wpList_copy_splice rfl (.tmp 23) (.tmp 24) 25 25 rfl 5 underlying25 ack _ _ _ _ _ _ rfl rfl _ 0 cur 5 hcg (bc l) (by rw[gH,hl];simp) (fun _=>⟨rfl,_,rfl,XD hl (fun t ht=>(Gr.cell B0 _ (by exact hb)).trans (HC t ht))⟩) (by rw[gH,hl,hcl];omega) (xX l) _ _ B0 (apn _) ?_;intro w2 HG2 hB2))
 have R0:qB w2 w'.heap.size n l:=⟨[],by rw[apz];have:=HG2.out;rwa[CY (by rw[gH,hl,hcl])]at this,by rw[apz,gH,hl],bj⟩;go_loopw [27] (fun i wr=>∃k:Nat,k<=gG op/\i=.int .u32 k/\qB wr w'.heap.size n (put l a x k)/\Gr w' wr) (fun i _=>gG op-(intOf i).toNat)
 case atStart=>exact⟨0,apF _,rfl,R0,hB2⟩
 case round=>
  obtain⟨k,hk,rfl,R,G⟩:=hrel;by_cases hlt:k<gG op
  ·have hp:=iR l a x k;have hck:=R.row.cell (t:=a+k) ab;have hfk:=R.row.frozen (a+k);have hw:(a+k)%4294967296=a+k:=ab;have RS:=R.set (t:=a+k) ab (x/2 ^ (8*k)%256) ab ab;rw[Ff x k hx0]at RS;have HR:=kH R;have HG:=kH G;have HS:Hid (qB (wr.setCell ⟨w'.heap.size,a+k,none⟩ (.int .u8 (x/256^k%256))) w'.heap.size n (put l a x (k+1))):=RS;have HB:Hid (x/2 ^ (8*k)%256=x/256^k%256):=Ff x k hx0;clear R G RS R0 hB2 hp;go_wp2;go_roundw
   case rel=>exact⟨k+1,ab,by go_num,by have:=HS;rw[<-HB.out]at this;exact this,HG.setCell (apn _) _⟩
   case measure=>simp[intOf];omega
  ·obtain rfl:k=gG op:=ab;have HR:=kH R;have HG:=kH G;go_wp2;go_ret2;exact⟨rfl,HR,HG⟩
theorem Ij (cap:Nat)(op a x:Int)(M:Mem w ao n l)(hn:n<=140737488351232)(h0:0<=a)(h1:a<4294967296)(hx0:0<=x)(hx1:x<4294967296):Calls prog 189 #[.slice ao n cap,.int .i64 op,.int .u32 a,.int .u32 x] w fun e w'=> ∃QS n' cap',e=.returned (.tuple #[.slice QS n' cap',.bool (dX l op a)])/\Mem w' QS n' (il l op a x)/\Gr w w'/\∀ad,QS=some ad->w.heap.size<=ad.block:=by
 have hl:=M.len;cases hok:qy n (gG op) a with
 |false=>
  have e1:dX l op a=false:=by unfold dX;rw[hl];exact hok
  have e2:il l op a x=[]:=by unfold il;rw[e1];rfl
  rw[e1,e2];refine(lD ao n cap op a x w hn h0 h1 hok).mono ?_;rintro e w' ⟨rfl,rfl⟩;exact⟨none,0,0,rfl,Mem.none _,Gr.refl _,fun ad h=>by cases h⟩
 |true=>
  have e1:dX l op a=true:=by unfold dX;rw[hl];exact hok
  have e2:il l op a x=put l a.toNat x (gG op):=by unfold il;rw[e1];rfl
  rw[e1,e2];obtain⟨b,o,rfl,hb,hc⟩:=M.spot (xY hok h0);obtain⟨a,rfl⟩:=apt h0;refine(iZ b o n cap l op x a w hn hl ab hb hx0 hx1 hc hok).mono ?_;rintro e w' ⟨rfl,R,G⟩;refine⟨_,_,_,rfl,?_,G,fun ad h=>by cases h;exact apn _⟩;have:=R.row.mem;rwa[iR,hl]at this
theorem dO (cap:Nat)(op a x:Int)(M:Mem w ao n l)(hn:n<=140737488351232)(h0:0<=a)(h1:a<4294967296)(hx0:0<=x)(hx1:x<4294967296):Calls prog 189 #[.slice ao n cap,.int .i64 op,.int .u32 a,.int .u32 x] w fun e w'=> ∃QS n' cap',e=.returned (.tuple #[.slice QS n' cap',.bool (dX l op a)])/\Mem w' QS n' (il l op a x)/\Gr w w':=by refine(Ij cap op a x M hn h0 h1 hx0 hx1).mono ?_;rintro e w' ⟨a1,n1,c1,rfl,M1,G1,_⟩;exact⟨a1,n1,c1,rfl,M1,G1⟩
end Mm
namespace Ww
theorem au {b:Int}(h:a=b):Ending.returned (.int k a)=.returned (.int k b):=by rw[h]
theorem aM {a b:Bool}(h:a=b):Ending.returned (.bool a)=.returned (.bool b):=by rw[h]
theorem wrap_u32' (n:Int):IntKind.u32.wrap n=n%4294967296:=by rfl
theorem ofInt32 (a:Nat)(ha:(a:Int)<4294967296):(BitVec.ofInt 32 (a:Int)).toNat=a:=by rw[BitVec.ofInt_natCast,BitVec.toNat_ofNat];exact Nat.mod_eq_of_lt ab
theorem eX (a b:Int)(ha:0<=a)(ha':a<4294967296)(hb:0<=b)(hb':b<4294967296):bits .and .u32 a b=Wd.iw a b:=by
 obtain⟨a,rfl⟩:=apt ha;obtain⟨b,rfl⟩:=apt hb;have hx:a &&& b<2^32:=ari _ ab;show IntKind.u32.wrap ((BitVec.ofInt 32 (a:Int) &&& BitVec.ofInt 32 (b:Int)).toNat:Int)=_
 rw[avk,ofInt32 a ha',ofInt32 b hb',wrap_u32'];simp only[Wd.iw,apG];omega
theorem cO (a b:Int)(ha:0<=a)(ha':a<4294967296)(hb:0<=b)(hb':b<4294967296):bits .or .u32 a b=Wd.rW a b:=by
 obtain⟨a,rfl⟩:=apt ha;obtain⟨b,rfl⟩:=apt hb;have hx:a |||b<2^32:=arn ab ab
 show IntKind.u32.wrap ((BitVec.ofInt 32 (a:Int) |||BitVec.ofInt 32 (b:Int)).toNat:Int)=_
 rw[BitVec.toNat_or,ofInt32 a ha',ofInt32 b hb',wrap_u32'];simp only[Wd.rW,apG];omega
theorem yg (a b:Int)(ha:0<=a)(ha':a<4294967296)(hb:0<=b)(hb':b<4294967296):bits .xor .u32 a b=Wd.zX a b:=by
 obtain⟨a,rfl⟩:=apt ha;obtain⟨b,rfl⟩:=apt hb;have hx:a ^^^ b<2^32:=Nat.xor_lt_two_pow ab ab;show IntKind.u32.wrap ((BitVec.ofInt 32 (a:Int) ^^^ BitVec.ofInt 32 (b:Int)).toNat:Int)=_
 rw[BitVec.toNat_xor,ofInt32 a ha',ofInt32 b hb',wrap_u32'];simp only[Wd.zX,apG];omega
theorem Ik (a:Int)(ha:0<=a)(ha':a<4294967296):wrap32 a=Wd.sg a:=by unfold wrap32 Wd.sg;split<;>omega
theorem Il (n:Int):wrap32 n%4294967296=Wd.lo n:=by unfold wrap32 Wd.lo;omega
theorem RQ (a:Int)(ha:0<=a):Wd.iw a 31=a%32:=by unfold Wd.iw;have h:a.toNat &&& (31:Int).toNat=a.toNat%32:=aqL a.toNat 5;rw[h];omega
theorem Lx (a:Int):IntKind.u64.wrap a/4294967296%4294967296=Wd.hi a:=by rw[avc];unfold Wd.hi;omega
theorem bI (a:Int)(w:World)(ha:0<=a)(ha':a<4294967296):Calls prog 188 #[.int .u32 a] w fun e w'=>e=.returned (.int .i32 (Wd.sg a))/\w'=w:=by go_enter func188,ntmps188;go_wp2;go_ret;exact⟨au (Ik a ha ha'),rfl⟩
theorem nW (a:Int)(w:World)(ha:0<=a)(ha':a<4294967296):Calls prog 190 #[.int .u32 a] w fun e w'=>e=.returned (.int .u32 (a%32))/\w'=w:=by go_enter func190,ntmps190;go_wp2;go_ret;exact⟨au ((eX a 31 ha ha' ab ab).trans (RQ a ha)),rfl⟩
theorem wm (b:Bool)(w:World):Calls prog 191 #[.bool b] w fun e w'=>e=.returned (.int .u32 (Wd.tr b))/\w'=w:=by
 cases b
 all_goals
  go_enter func191,ntmps191;go_wp2;go_ret;exact⟨rfl,rfl⟩
theorem wu (a:Int)(w:World)(ha : -9223372036854775808<=a)(ha':a<=9223372036854775807):Calls prog 192 #[.int .i64 a] w fun e w'=>e=.returned (.int .u32 (Wd.hi a))/\w'=w:=by go_enter func192,ntmps192;go_wp2;go_ret;exact⟨au (Lx a),rfl⟩
theorem yh (a b:Int)(w:World)(ha:0<=a)(ha':a<4294967296)(hb:0<=b)(hb':b<4294967296):Calls prog 193 #[.int .u32 a,.int .u32 b] w fun e w'=>e=.returned (.int .u32 (Wd.dv a b))/\w'=w:=by
 by_cases h0:b=0
 ·subst h0;go_enter func193,ntmps193;go_wp2;go_ret;exact⟨rfl,rfl⟩
 ·have hz:¬Wd.sg b=0:=fun h=>h0 ((Wd.Fg hb hb').1 h)
  have hb0:(b ==0)=false:=by simpa using h0
  have sa:=Wd.rA ha ha';have sb:=Wd.rA hb hb';have H:Hid (Wd.dv a b=Wd.lo ((Wd.sg a).tdiv (Wd.sg b))):=(by unfold Wd.dv;rw[at6 h0]:_=_);go_enter func193,ntmps193;go_wp2_with (go_at_call 188;refine(bI _ _ ab ab).mono ?_;rintro e w' ⟨rfl,rfl⟩);go_ret;exact⟨au ((Il _).trans H.symm),rfl⟩
theorem vG (a b:Int)(w:World)(ha:0<=a)(ha':a<4294967296)(hb:0<=b)(hb':b<4294967296):Calls prog 194 #[.int .u32 a,.int .u32 b] w fun e w'=>e=.returned (.int .u32 (Wd.rm a b))/\w'=w:=by
 by_cases h0:b=0
 ·subst h0;go_enter func194,ntmps194;go_wp2;go_ret;exact⟨rfl,rfl⟩
 ·have hz:¬Wd.sg b=0:=fun h=>h0 ((Wd.Fg hb hb').1 h)
  have hb0:(b ==0)=false:=by simpa using h0
  have sa:=Wd.rA ha ha';have sb:=Wd.rA hb hb';have H:Hid (Wd.rm a b=Wd.lo ((Wd.sg a).tmod (Wd.sg b))):=(by unfold Wd.rm;rw[at6 h0]:_=_);go_enter func194,ntmps194;go_wp2_with (go_at_call 188;refine(bI _ _ ab ab).mono ?_;rintro e w' ⟨rfl,rfl⟩);go_ret;exact⟨au (H.symm),rfl⟩
theorem o5 (a b:Int)(w:World)(ha:0<=a)(ha':a<4294967296)(hb:0<=b)(hb':b<4294967296):Calls prog 195 #[.int .u32 a,.int .u32 b] w fun e w'=>e=.returned (.int .u32 (Wd.dvu a b))/\w'=w:=by
 by_cases h0:b=0
 ·subst h0;go_enter func195,ntmps195;go_wp2;go_ret;exact⟨rfl,rfl⟩
 ·have hb0:(b ==0)=false:=by simpa using h0
  have H:Hid (Wd.dvu a b=a/b):=(by unfold Wd.dvu;rw[at6 h0]:_=_);go_enter func195,ntmps195;go_wp2;go_ret;exact⟨au H.symm,rfl⟩
theorem nX (a b:Int)(w:World)(ha:0<=a)(ha':a<4294967296)(hb:0<=b)(hb':b<4294967296):Calls prog 196 #[.int .u32 a,.int .u32 b] w fun e w'=>e=.returned (.int .u32 (Wd.rmu a b))/\w'=w:=by
 by_cases h0:b=0
 ·subst h0;go_enter func196,ntmps196;go_wp2;go_ret;exact⟨rfl,rfl⟩
 ·have hb0:(b ==0)=false:=by simpa using h0
  have H:Hid (Wd.rmu a b=a%b):=(by unfold Wd.rmu;rw[at6 h0]:_=_);go_enter func196,ntmps196;go_wp2;go_ret;exact⟨au H.symm,rfl⟩
theorem XU (a b:Int)(w:World)(ha:0<=a)(ha':a<4294967296)(hb:0<=b)(hb':b<4294967296):Calls prog 179 #[.int .i64 28,.int .u32 a,.int .u32 b] w fun e w'=>e=.returned (.int .u32 (Wd.eT 28 a b))/\w'=w:=by go_enter func179,ntmps179;go_wp2;go_ret;exact⟨au (rfl),rfl⟩
theorem XV (a b:Int)(w:World)(ha:0<=a)(ha':a<4294967296)(hb:0<=b)(hb':b<4294967296):Calls prog 179 #[.int .i64 29,.int .u32 a,.int .u32 b] w fun e w'=>e=.returned (.int .u32 (Wd.eT 29 a b))/\w'=w:=by go_enter func179,ntmps179;go_wp2;go_ret;exact⟨au (rfl),rfl⟩
theorem XW (a b:Int)(w:World)(ha:0<=a)(ha':a<4294967296)(hb:0<=b)(hb':b<4294967296):Calls prog 179 #[.int .i64 37,.int .u32 a,.int .u32 b] w fun e w'=>e=.returned (.int .u32 (Wd.eT 37 a b))/\w'=w:=by go_enter func179,ntmps179;go_wp2;go_ret;exact⟨au (eX a b ha ha' hb hb'),rfl⟩
theorem XX (a b:Int)(w:World)(ha:0<=a)(ha':a<4294967296)(hb:0<=b)(hb':b<4294967296):Calls prog 179 #[.int .i64 36,.int .u32 a,.int .u32 b] w fun e w'=>e=.returned (.int .u32 (Wd.eT 36 a b))/\w'=w:=by go_enter func179,ntmps179;go_wp2;go_ret;exact⟨au (cO a b ha ha' hb hb'),rfl⟩
theorem XY (a b:Int)(w:World)(ha:0<=a)(ha':a<4294967296)(hb:0<=b)(hb':b<4294967296):Calls prog 179 #[.int .i64 33,.int .u32 a,.int .u32 b] w fun e w'=>e=.returned (.int .u32 (Wd.eT 33 a b))/\w'=w:=by go_enter func179,ntmps179;go_wp2;go_ret;exact⟨au (yg a b ha ha' hb hb'),rfl⟩
theorem XZ (a b:Int)(w:World)(ha:0<=a)(ha':a<4294967296)(hb:0<=b)(hb':b<4294967296):Calls prog 179 #[.int .i64 30,.int .u32 a,.int .u32 b] w fun e w'=>e=.returned (.int .u32 (Wd.eT 30 a b))/\w'=w:=by go_enter func179,ntmps179;go_wp2_with (go_at_call 190;refine(nW _ _ ab ab).mono ?_;rintro e w' ⟨rfl,rfl⟩);go_ret;exact⟨au (rfl),rfl⟩
theorem X4 (a b:Int)(w:World)(ha:0<=a)(ha':a<4294967296)(hb:0<=b)(hb':b<4294967296):Calls prog 179 #[.int .i64 34,.int .u32 a,.int .u32 b] w fun e w'=>e=.returned (.int .u32 (Wd.eT 34 a b))/\w'=w:=by go_enter func179,ntmps179;go_wp2_with (go_at_call 190;refine(nW _ _ ab ab).mono ?_;rintro e w' ⟨rfl,rfl⟩);go_ret;exact⟨au (rfl),rfl⟩
theorem Ya (a b:Int)(w:World)(ha:0<=a)(ha':a<4294967296)(hb:0<=b)(hb':b<4294967296):Calls prog 179 #[.int .i64 35,.int .u32 a,.int .u32 b] w fun e w'=>e=.returned (.int .u32 (Wd.eT 35 a b))/\w'=w:=by go_enter func179,ntmps179;go_wp2_with (first|(go_at_call 188;refine(bI _ _ ab ab).mono ?_;rintro e w' ⟨rfl,rfl⟩)|(go_at_call 190;refine(nW _ _ ab ab).mono ?_;rintro e w' ⟨rfl,rfl⟩));go_ret;exact⟨au (rfl),rfl⟩
theorem Yb (a b:Int)(w:World)(ha:0<=a)(ha':a<4294967296)(hb:0<=b)(hb':b<4294967296):Calls prog 179 #[.int .i64 31,.int .u32 a,.int .u32 b] w fun e w'=>e=.returned (.int .u32 (Wd.eT 31 a b))/\w'=w:=by go_enter func179,ntmps179;go_wp2_with (first|(go_at_call 188;refine(bI _ _ ab ab).mono ?_;rintro e w' ⟨rfl,rfl⟩)|(go_at_call 191;refine(wm _ _).mono ?_;rintro e w' ⟨rfl,rfl⟩));go_ret;exact⟨au (rfl),rfl⟩
theorem Yc (a b:Int)(w:World)(ha:0<=a)(ha':a<4294967296)(hb:0<=b)(hb':b<4294967296):Calls prog 179 #[.int .i64 32,.int .u32 a,.int .u32 b] w fun e w'=>e=.returned (.int .u32 (Wd.eT 32 a b))/\w'=w:=by go_enter func179,ntmps179;go_wp2_with (go_at_call 191;refine(wm _ _).mono ?_;rintro e w' ⟨rfl,rfl⟩);go_ret;exact⟨au (rfl),rfl⟩
theorem Yd (a b:Int)(w:World)(ha:0<=a)(ha':a<4294967296)(hb:0<=b)(hb':b<4294967296):Calls prog 179 #[.int .i64 38,.int .u32 a,.int .u32 b] w fun e w'=>e=.returned (.int .u32 (Wd.eT 38 a b))/\w'=w:=by go_enter func179,ntmps179;go_wp2;go_ret;exact⟨au (rfl),rfl⟩
theorem Ye (a b:Int)(w:World)(ha:0<=a)(ha':a<4294967296)(hb:0<=b)(hb':b<4294967296):Calls prog 179 #[.int .i64 39,.int .u32 a,.int .u32 b] w fun e w'=>e=.returned (.int .u32 (Wd.eT 39 a b))/\w'=w:=by have sa:=Wd.rA ha ha';have sb:=Wd.rA hb hb';have mb:=Wd.K8 (x:=Wd.sg a) (y:=Wd.sg b) ab ab ab ab;go_enter func179,ntmps179;go_wp2_with (first|(go_at_call 188;refine(bI _ _ ab ab).mono ?_;rintro e w' ⟨rfl,rfl⟩)|(go_at_call 192;refine(wu _ _ ab ab).mono ?_;rintro e w' ⟨rfl,rfl⟩));go_ret;exact⟨au (rfl),rfl⟩
theorem Yf (a b:Int)(w:World)(ha:0<=a)(ha':a<4294967296)(hb:0<=b)(hb':b<4294967296):Calls prog 179 #[.int .i64 40,.int .u32 a,.int .u32 b] w fun e w'=>e=.returned (.int .u32 (Wd.eT 40 a b))/\w'=w:=by have sa:=Wd.rA ha ha';have sb:=Wd.rA hb hb';have mb:=Wd.K8 (x:=Wd.sg a) (y:=b) ab ab ab ab;go_enter func179,ntmps179;go_wp2_with (first|(go_at_call 188;refine(bI _ _ ab ab).mono ?_;rintro e w' ⟨rfl,rfl⟩)|(go_at_call 192;refine(wu _ _ ab ab).mono ?_;rintro e w' ⟨rfl,rfl⟩));go_ret;exact⟨au (rfl),rfl⟩
theorem Yg (a b:Int)(w:World)(ha:0<=a)(ha':a<4294967296)(hb:0<=b)(hb':b<4294967296):Calls prog 179 #[.int .i64 41,.int .u32 a,.int .u32 b] w fun e w'=>e=.returned (.int .u32 (Wd.eT 41 a b))/\w'=w:=by have mb:=Wd.Rz ha ha' hb hb';go_enter func179,ntmps179;go_wp2;go_ret;exact⟨au (by show _=Wd.hi (a*b);unfold Wd.hi;omega),rfl⟩
theorem Yh (a b:Int)(w:World)(ha:0<=a)(ha':a<4294967296)(hb:0<=b)(hb':b<4294967296):Calls prog 179 #[.int .i64 42,.int .u32 a,.int .u32 b] w fun e w'=>e=.returned (.int .u32 (Wd.eT 42 a b))/\w'=w:=by go_enter func179,ntmps179;go_wp2_with (go_at_call 193;refine(yh _ _ _ ab ab ab ab).mono ?_;rintro e w' ⟨rfl,rfl⟩);go_ret;exact⟨au (rfl),rfl⟩
theorem Yi (a b:Int)(w:World)(ha:0<=a)(ha':a<4294967296)(hb:0<=b)(hb':b<4294967296):Calls prog 179 #[.int .i64 44,.int .u32 a,.int .u32 b] w fun e w'=>e=.returned (.int .u32 (Wd.eT 44 a b))/\w'=w:=by go_enter func179,ntmps179;go_wp2_with (go_at_call 194;refine(vG _ _ _ ab ab ab ab).mono ?_;rintro e w' ⟨rfl,rfl⟩);go_ret;exact⟨au (rfl),rfl⟩
theorem Yj (a b:Int)(w:World)(ha:0<=a)(ha':a<4294967296)(hb:0<=b)(hb':b<4294967296):Calls prog 179 #[.int .i64 43,.int .u32 a,.int .u32 b] w fun e w'=>e=.returned (.int .u32 (Wd.eT 43 a b))/\w'=w:=by go_enter func179,ntmps179;go_wp2_with (go_at_call 195;refine(o5 _ _ _ ab ab ab ab).mono ?_;rintro e w' ⟨rfl,rfl⟩);go_ret;exact⟨au (rfl),rfl⟩
theorem Yk (a b:Int)(w:World)(ha:0<=a)(ha':a<4294967296)(hb:0<=b)(hb':b<4294967296):Calls prog 179 #[.int .i64 45,.int .u32 a,.int .u32 b] w fun e w'=>e=.returned (.int .u32 (Wd.eT 45 a b))/\w'=w:=by go_enter func179,ntmps179;go_wp2_with (go_at_call 196;refine(nX _ _ _ ab ab ab ab).mono ?_;rintro e w' ⟨rfl,rfl⟩);go_ret;exact⟨au (rfl),rfl⟩
theorem jE (op a b:Int)(w:World)(ha:0<=a)(ha':a<4294967296)(hb:0<=b)(hb':b<4294967296):Calls prog 179 #[.int .i64 op,.int .u32 a,.int .u32 b] w fun e w'=>e=.returned (.int .u32 (Wd.eT op a b))/\w'=w:=by
 by_cases h28:op=28
 ·subst h28;exact XU a b w ha ha' hb hb'
 by_cases h29:op=29
 ·subst h29;exact XV a b w ha ha' hb hb'
 by_cases h37:op=37
 ·subst h37;exact XW a b w ha ha' hb hb'
 by_cases h36:op=36
 ·subst h36;exact XX a b w ha ha' hb hb'
 by_cases h33:op=33
 ·subst h33;exact XY a b w ha ha' hb hb'
 by_cases h30:op=30
 ·subst h30;exact XZ a b w ha ha' hb hb'
 by_cases h34:op=34
 ·subst h34;exact X4 a b w ha ha' hb hb'
 by_cases h35:op=35
 ·subst h35;exact Ya a b w ha ha' hb hb'
 by_cases h31:op=31
 ·subst h31;exact Yb a b w ha ha' hb hb'
 by_cases h32:op=32
 ·subst h32;exact Yc a b w ha ha' hb hb'
 by_cases h38:op=38
 ·subst h38;exact Yd a b w ha ha' hb hb'
 by_cases WJ:op=39
 ·subst WJ;exact Ye a b w ha ha' hb hb'
 by_cases QT:op=40
 ·subst QT;exact Yf a b w ha ha' hb hb'
 by_cases h41:op=41
 ·subst h41;exact Yg a b w ha ha' hb hb'
 by_cases h42:op=42
 ·subst h42;exact Yh a b w ha ha' hb hb'
 by_cases h44:op=44
 ·subst h44;exact Yi a b w ha ha' hb hb'
 by_cases h43:op=43
 ·subst h43;exact Yj a b w ha ha' hb hb'
 by_cases h45:op=45
 ·subst h45;exact Yk a b w ha ha' hb hb'
 have H:Hid (Wd.eT op a b=0):=(by unfold Wd.eT;rw[at6 h28,at6 h29,at6 h37,at6 h36,at6 h33,at6 h30,at6 h34,at6 h35,at6 h31,at6 h32,at6 h38,at6 WJ,at6 QT,at6 h41,at6 h42,at6 h44,at6 h43,at6 h45]:_=_);replace h28:(op ==28)=false:=aub.2 h28;replace h29:(op ==29)=false:=aub.2 h29;replace h37:(op ==37)=false:=aub.2 h37;replace h36:(op ==36)=false:=aub.2 h36;replace h33:(op ==33)=false:=aub.2 h33;replace h30:(op ==30)=false:=aub.2 h30;replace h34:(op ==34)=false:=aub.2 h34;replace h35:(op ==35)=false:=aub.2 h35;replace h31:(op ==31)=false:=aub.2 h31;replace h32:(op ==32)=false:=aub.2 h32;replace h38:(op ==38)=false:=aub.2 h38;replace WJ:(op ==39)=false:=aub.2 WJ;replace QT:(op ==40)=false:=aub.2 QT;replace h41:(op ==41)=false:=aub.2 h41;replace h42:(op ==42)=false:=aub.2 h42;replace h44:(op ==44)=false:=aub.2 h44;replace h43:(op ==43)=false:=aub.2 h43;replace h45:(op ==45)=false:=aub.2 h45;go_enter func179,ntmps179;go_wp2;go_ret;exact⟨au H.symm,rfl⟩
theorem RU (a b:Int)(w:World)(ha:0<=a)(ha':a<4294967296)(hb:0<=b)(hb':b<4294967296):Calls prog 176 #[.int .i64 5,.int .u32 a,.int .u32 b] w fun e w'=>e=.returned (.bool (Wd.holds 5 a b))/\w'=w:=by go_enter func176,ntmps176;go_wp2_with (go_at_call 188;refine(bI _ _ ab ab).mono ?_;rintro e w' ⟨rfl,rfl⟩);go_ret;exact⟨aM (rfl),rfl⟩
theorem RV (a b:Int)(w:World)(ha:0<=a)(ha':a<4294967296)(hb:0<=b)(hb':b<4294967296):Calls prog 176 #[.int .i64 6,.int .u32 a,.int .u32 b] w fun e w'=>e=.returned (.bool (Wd.holds 6 a b))/\w'=w:=by go_enter func176,ntmps176;go_wp2_with (go_at_call 188;refine(bI _ _ ab ab).mono ?_;rintro e w' ⟨rfl,rfl⟩);go_ret;exact⟨aM (by show(a !=b)=decide (a≠b);rw[arx];simp),rfl⟩
theorem RX (a b:Int)(w:World)(ha:0<=a)(ha':a<4294967296)(hb:0<=b)(hb':b<4294967296):Calls prog 176 #[.int .i64 7,.int .u32 a,.int .u32 b] w fun e w'=>e=.returned (.bool (Wd.holds 7 a b))/\w'=w:=by go_enter func176,ntmps176;go_wp2_with (go_at_call 188;refine(bI _ _ ab ab).mono ?_;rintro e w' ⟨rfl,rfl⟩);go_ret;exact⟨aM (rfl),rfl⟩
theorem RY (a b:Int)(w:World)(ha:0<=a)(ha':a<4294967296)(hb:0<=b)(hb':b<4294967296):Calls prog 176 #[.int .i64 8,.int .u32 a,.int .u32 b] w fun e w'=>e=.returned (.bool (Wd.holds 8 a b))/\w'=w:=by go_enter func176,ntmps176;go_wp2_with (go_at_call 188;refine(bI _ _ ab ab).mono ?_;rintro e w' ⟨rfl,rfl⟩);go_ret;exact⟨aM (rfl),rfl⟩
theorem RZ (a b:Int)(w:World)(ha:0<=a)(ha':a<4294967296)(hb:0<=b)(hb':b<4294967296):Calls prog 176 #[.int .i64 9,.int .u32 a,.int .u32 b] w fun e w'=>e=.returned (.bool (Wd.holds 9 a b))/\w'=w:=by go_enter func176,ntmps176;go_wp2_with (go_at_call 188;refine(bI _ _ ab ab).mono ?_;rintro e w' ⟨rfl,rfl⟩);go_ret;exact⟨aM (rfl),rfl⟩
theorem LA (a b:Int)(w:World)(ha:0<=a)(ha':a<4294967296)(hb:0<=b)(hb':b<4294967296):Calls prog 176 #[.int .i64 10,.int .u32 a,.int .u32 b] w fun e w'=>e=.returned (.bool (Wd.holds 10 a b))/\w'=w:=by go_enter func176,ntmps176;go_wp2_with (go_at_call 188;refine(bI _ _ ab ab).mono ?_;rintro e w' ⟨rfl,rfl⟩);go_ret;exact⟨aM (rfl),rfl⟩
theorem wy (op a b:Int)(w:World)(ha:0<=a)(ha':a<4294967296)(hb:0<=b)(hb':b<4294967296):Calls prog 176 #[.int .i64 op,.int .u32 a,.int .u32 b] w fun e w'=>e=.returned (.bool (Wd.holds op a b))/\w'=w:=by
 by_cases h5:op=5
 ·subst h5;exact RU a b w ha ha' hb hb'
 by_cases h6:op=6
 ·subst h6;exact RV a b w ha ha' hb hb'
 by_cases h7:op=7
 ·subst h7;exact RX a b w ha ha' hb hb'
 by_cases h8:op=8
 ·subst h8;exact RY a b w ha ha' hb hb'
 by_cases h9:op=9
 ·subst h9;exact RZ a b w ha ha' hb hb'
 by_cases h10:op=10
 ·subst h10;exact LA a b w ha ha' hb hb'
 have H:Hid (Wd.holds op a b=false):=(by unfold Wd.holds;rw[at6 h5,at6 h6,at6 h7,at6 h8,at6 h9,at6 h10]:_=_);replace h5:(op ==5)=false:=aub.2 h5;replace h6:(op ==6)=false:=aub.2 h6;replace h7:(op ==7)=false:=aub.2 h7;replace h8:(op ==8)=false:=aub.2 h8;replace h9:(op ==9)=false:=aub.2 h9;replace h10:(op ==10)=false:=aub.2 h10;go_enter func176,ntmps176;go_wp2;go_ret;exact⟨aM H.symm,rfl⟩
theorem Yl (a b:Int)(w:World)(ha:0<=a)(ha':a<4294967296)(hb:0<=b)(hb':b<4294967296):Calls prog 199 #[.int .i64 48,.int .u32 a,.int .u32 b] w fun e w'=>e=.returned (.int .u32 (Wd.mO 48 a b))/\w'=w:=by go_enter func199,ntmps199;go_wp2_with fail;go_ret;exact⟨au (rfl),rfl⟩
theorem Ym (a b:Int)(w:World)(ha:0<=a)(ha':a<4294967296)(hb:0<=b)(hb':b<4294967296):Calls prog 199 #[.int .i64 49,.int .u32 a,.int .u32 b] w fun e w'=>e=.returned (.int .u32 (Wd.mO 49 a b))/\w'=w:=by go_enter func199,ntmps199;go_wp2_with (go_at_call 179;refine(jE _ _ _ _ ab ab ab ab).mono ?_;rintro e w' ⟨rfl,rfl⟩);go_ret;exact⟨au (rfl),rfl⟩
theorem Yn (a b:Int)(w:World)(ha:0<=a)(ha':a<4294967296)(hb:0<=b)(hb':b<4294967296):Calls prog 199 #[.int .i64 50,.int .u32 a,.int .u32 b] w fun e w'=>e=.returned (.int .u32 (Wd.mO 50 a b))/\w'=w:=by go_enter func199,ntmps199;go_wp2_with (go_at_call 179;refine(jE _ _ _ _ ab ab ab ab).mono ?_;rintro e w' ⟨rfl,rfl⟩);go_ret;exact⟨au (rfl),rfl⟩
theorem Yo (a b:Int)(w:World)(ha:0<=a)(ha':a<4294967296)(hb:0<=b)(hb':b<4294967296):Calls prog 199 #[.int .i64 51,.int .u32 a,.int .u32 b] w fun e w'=>e=.returned (.int .u32 (Wd.mO 51 a b))/\w'=w:=by go_enter func199,ntmps199;go_wp2_with (go_at_call 179;refine(jE _ _ _ _ ab ab ab ab).mono ?_;rintro e w' ⟨rfl,rfl⟩);go_ret;exact⟨au (rfl),rfl⟩
theorem Yp (a b:Int)(w:World)(ha:0<=a)(ha':a<4294967296)(hb:0<=b)(hb':b<4294967296):Calls prog 199 #[.int .i64 52,.int .u32 a,.int .u32 b] w fun e w'=>e=.returned (.int .u32 (Wd.mO 52 a b))/\w'=w:=by go_enter func199,ntmps199;go_wp2_with (go_at_call 179;refine(jE _ _ _ _ ab ab ab ab).mono ?_;rintro e w' ⟨rfl,rfl⟩);go_ret;exact⟨au (rfl),rfl⟩
theorem Yq (a b:Int)(w:World)(ha:0<=a)(ha':a<4294967296)(hb:0<=b)(hb':b<4294967296):Calls prog 199 #[.int .i64 53,.int .u32 a,.int .u32 b] w fun e w'=>e=.returned (.int .u32 (Wd.mO 53 a b))/\w'=w:=by
 have la:Hid (Wd.sg a%4294967296=a):=Wd.rC ha ha';have lb:Hid (Wd.sg b%4294967296=b):=Wd.rC hb hb';go_enter func199,ntmps199;go_wp2_with (go_at_call 188;refine(bI _ _ ab ab).mono ?_;rintro e w' ⟨rfl,rfl⟩)
 all_goals
  go_ret;exact⟨au (by have:=la.out;have:=lb.out;show _=(if Wd.sg a<Wd.sg b then a else b);split<;>omega),rfl⟩
theorem Yr (a b:Int)(w:World)(ha:0<=a)(ha':a<4294967296)(hb:0<=b)(hb':b<4294967296):Calls prog 199 #[.int .i64 54,.int .u32 a,.int .u32 b] w fun e w'=>e=.returned (.int .u32 (Wd.mO 54 a b))/\w'=w:=by
 have la:Hid (Wd.sg a%4294967296=a):=Wd.rC ha ha';have lb:Hid (Wd.sg b%4294967296=b):=Wd.rC hb hb';go_enter func199,ntmps199;go_wp2_with (go_at_call 188;refine(bI _ _ ab ab).mono ?_;rintro e w' ⟨rfl,rfl⟩)
 all_goals
  go_ret;exact⟨au (by have:=la.out;have:=lb.out;show _=(if Wd.sg a<Wd.sg b then b else a);split<;>omega),rfl⟩
theorem Yt (a b:Int)(w:World)(ha:0<=a)(ha':a<4294967296)(hb:0<=b)(hb':b<4294967296):Calls prog 199 #[.int .i64 55,.int .u32 a,.int .u32 b] w fun e w'=>e=.returned (.int .u32 (Wd.mO 55 a b))/\w'=w:=by
 have la:=kH (Wd.rC ha ha');have lb:=kH (Wd.rC hb hb');go_enter func199,ntmps199;go_wp2_with (go_at_call 188;refine(bI _ _ ab ab).mono ?_;rintro e w' ⟨rfl,rfl⟩)
 all_goals
  go_ret;exact⟨au (by have:=la;have:=lb;show _=(if a<b then a else b);split<;>omega),rfl⟩
theorem Yu (a b:Int)(w:World)(ha:0<=a)(ha':a<4294967296)(hb:0<=b)(hb':b<4294967296):Calls prog 199 #[.int .i64 56,.int .u32 a,.int .u32 b] w fun e w'=>e=.returned (.int .u32 (Wd.mO 56 a b))/\w'=w:=by
 have la:=kH (Wd.rC ha ha');have lb:=kH (Wd.rC hb hb');go_enter func199,ntmps199;go_wp2_with (go_at_call 188;refine(bI _ _ ab ab).mono ?_;rintro e w' ⟨rfl,rfl⟩)
 all_goals
  go_ret;exact⟨au (by have:=la;have:=lb;show _=(if a<b then b else a);split<;>omega),rfl⟩
theorem Fv (op a b:Int)(w:World)(ha:0<=a)(ha':a<4294967296)(hb:0<=b)(hb':b<4294967296):Calls prog 199 #[.int .i64 op,.int .u32 a,.int .u32 b] w fun e w'=>e=.returned (.int .u32 (Wd.mO op a b))/\w'=w:=by
 by_cases h48:op=48
 ·subst h48;exact Yl a b w ha ha' hb hb'
 by_cases h49:op=49
 ·subst h49;exact Ym a b w ha ha' hb hb'
 by_cases h50:op=50
 ·subst h50;exact Yn a b w ha ha' hb hb'
 by_cases Yw:op=51
 ·subst Yw;exact Yo a b w ha ha' hb hb'
 by_cases h52:op=52
 ·subst h52;exact Yp a b w ha ha' hb hb'
 by_cases h53:op=53
 ·subst h53;exact Yq a b w ha ha' hb hb'
 by_cases h54:op=54
 ·subst h54;exact Yr a b w ha ha' hb hb'
 by_cases h55:op=55
 ·subst h55;exact Yt a b w ha ha' hb hb'
 by_cases h56:op=56
 ·subst h56;exact Yu a b w ha ha' hb hb'
 have H:Hid (Wd.mO op a b=0):=(by unfold Wd.mO;rw[at6 h48,at6 h49,at6 h50,at6 Yw,at6 h52,at6 h53,at6 h54,at6 h55,at6 h56]:_=_);replace h48:(op ==48)=false:=aub.2 h48;replace h49:(op ==49)=false:=aub.2 h49;replace h50:(op ==50)=false:=aub.2 h50;replace Yw:(op ==51)=false:=aub.2 Yw;replace h52:(op ==52)=false:=aub.2 h52;replace h53:(op ==53)=false:=aub.2 h53;replace h54:(op ==54)=false:=aub.2 h54;replace h55:(op ==55)=false:=aub.2 h55;replace h56:(op ==56)=false:=aub.2 h56;go_enter func199,ntmps199;go_wp2;go_ret;exact⟨au H.symm,rfl⟩
end Ww
namespace Hc
variable[Inhabited Hc.bN]
open Mm Hh
variable{h:Hv}
theorem aG (n a b:Int)(w:World):Calls prog 97 #[.int .i64 n,.int .i64 a,.int .i64 b] w fun e w'=>e=.returned (.bool (decide (a<=n) && decide (n<=b)))/\w'=w:=by
 by_cases h1:a<=n
 ·by_cases h2:n<=b
  ·go_enter func97,ntmps97;go_wp2;go_ret;exact⟨aM (by simp[h1,h2]),rfl⟩
  ·go_enter func97,ntmps97;go_wp2;go_ret;exact⟨aM (by simp[h1,h2]),rfl⟩
 ·go_enter func97,ntmps97;go_wp2;go_ret;exact⟨aM aE,rfl⟩
theorem Fw (h:Hv)(o:h.Ok):(hA h)[0]?=some (.int .u32 (rg h 0))/\(hA h)[33]?=some (.bool h.held)/\(hA h)[34]?=some (.int .u32 h.aP)/\(hA h)[35]?=some (.int .i64 h.state)/\(hA h)[36]?=some (.int .i64 h.cause):=by unfold hA;simp only[apm];exact⟨lC o ab,aW o 1,aW o 2,aW o 3,aW o 4⟩
theorem yj (o:h.Ok)(w:World):Calls prog 69 #[.agg (hA h)] w fun e w'=>e=.returned (.bool (may h))/\Gr w w':=by
 obtain⟨c0,c1,c2,c3,c4⟩:=Fw h o;have HM:Hid (may h=decide (rg h 0=0/\(h.held=false->h.aP=0)/\(((h.state=0\/h.state=1)/\h.cause=0)\/(h.state=2/\1<=h.cause/\h.cause<=6)))):=rfl;generalize may h=M at *
 generalize hA h=A at *
 generalize rg h 0=x0 at *
 generalize h.held=x1 at *
 generalize h.aP=x2 at *
 generalize h.state=x3 at *
 generalize h.cause=x4 at *
 cases x1
 all_goals
  go_enter func69,ntmps69;go_wp2_with (go_at_call 97;refine(aG _ _ _ _).mono ?_;rintro e w' ⟨rfl,rfl⟩)
  all_goals
   go_ret;refine⟨aM ?_,(Gr.refl _).alloc _⟩;rw[HM.out,arx];simp at *
   omega
theorem dK (I:In w base g h l os ss)(c:Int):Calls prog 134 #[.pointer (some ⟨g,0,none⟩),.int .i64 c] w fun e w'=>e=.returned (.tuple #[])/\In w' base g (h.trap c) l os ss/\Ch g w w':=by
 obtain⟨c0,rfl,I⟩:=I;have k1:=(I.hcell ab).trans (aW I.ok 3);have k2:=(I.hcell ab).trans (aW I.ok 4);have fz:=I.fz;have o1:Hv.Ok { c0.h with state:=2 }:=⟨I.ok.len,I.ok.reg,I.ok.nH,I.ok.jV,I.ok.x9,I.ok.zO⟩;have J:Hid (Inv ((w.setCell ⟨g,35,none⟩ (.int .i64 2)).setCell ⟨g,36,none⟩ (.int .i64 c)) base g { c0 with h:=c0.h.trap c } l os ss):=
  (I.set ab (mR I.ok 2) o1).set (c:={ c0 with h:={ c0.h with state:=2 } }) ab (wh o1 c) (I.ok.trap c)
 generalize c0.h.state=x1 at k1;generalize c0.h.cause=x2 at k2;go_enter func134,ntmps134;go_wp2;go_end0;exact⟨rfl,⟨_,rfl,J⟩,((Ch.refl g w).setCell _ _).setCell _ _⟩
theorem yl (I:In w base g h l os ss)(r x:Int)(h0:0<=r)(h1:r<32)(hx0:0<=x)(hx1:x<4294967296):Calls prog 162 #[.pointer (some ⟨g,0,none⟩),.int .i64 r,.int .u32 x] w fun e w'=>e=.returned (.tuple #[])/\In w' base g (h.set r.toNat x) l os ss/\Ch g w w':=by
 obtain⟨c0,rfl,I⟩:=I;obtain⟨r,rfl⟩:=apt h0;simp only[apG];by_cases hr:r=0
 ·subst hr;have J:=kH I;go_enter func162,ntmps162;go_wp2;go_end0;exact⟨rfl,⟨c0,rfl,J⟩,Ch.refl g w⟩
 ·have hr2:r<32:=ab;have k1:=I.reg hr2;have fz:=I.fz;have e:c0.h.set r x={ c0.h with regs:=c0.h.regs.set r x }:=at6 hr;have ok:=I.ok.set r hx0 hx1;rw[e]at ok ⊢;have J:=kH (I.set ab (yc I.ok hr2 x) ok);have hr':¬(r:Int)=0:=ab;generalize rg c0.h r=y at k1;go_enter func162,ntmps162;go_wp2;go_end0;exact⟨rfl,⟨_,rfl,J⟩,(Ch.refl g w).setCell _ _⟩
theorem dY (I:In w base g h l os ss)(hl:l.length<=140737488351232)(op a:Int)(h0:0<=a)(h1:a<4294967296):Calls prog 177 #[.pointer (some ⟨g,0,none⟩),.int .i64 op,.int .u32 a] w fun e w'=>e=.returned (.tuple #[.int .u32 (aN l op a),.bool (bM l op a)])/\In w' base g (if bM l op a=true then h else h.trap 3) l os ss/\Ch g w w':=by
 have T:Hid (∀c,_):=fun c=>dK I c
 have HI:=kH I;obtain⟨c0,rfl,I⟩:=I;obtain⟨ao,cap,hm,M⟩:=I.mem.mem;have k1:w.cell? ⟨g,37,none⟩=some (.slice ao l.length cap):=(I.dJ 0).trans (by rw[hm];rfl);have L:=kH (Mm.dY cap op a M hl h0 h1);generalize aN l op a=X at *
 generalize bM l op a=B at *
 generalize l.length=n at *
 cases B
 ·go_enter func177,ntmps177;go_wp2_with fail;refine L.mono ?_;rintro e w' ⟨rfl,rfl⟩;go_wp2_with fail;refine(T 3).mono ?_;rintro e w2 ⟨rfl,I2,C2⟩;have HI2:=kH I2;go_wp2;go_ret2;exact⟨rfl,HI2,C2⟩
 ·go_enter func177,ntmps177;go_wp2_with fail;refine L.mono ?_;rintro e w' ⟨rfl,rfl⟩;go_wp2;go_ret2;exact⟨rfl,HI,Ch.refl _ _⟩
theorem Fy (x:Int)(h0:0<=x)(h1:x<4294967296):bits .andNot .u32 x 1=x-x%2:=by
 obtain⟨x,rfl⟩:=apt h0;show IntKind.u32.wrap ((BitVec.ofInt 32 (x:Int) &&& ~~~ BitVec.ofInt 32 1).toNat:Int)=_
 have e:(~~~ BitVec.ofInt 32 1).toNat=(2^31-1)*2^1:=an;rw[avk,ofInt32 x h1,e,Dc.jT];show((x/2^1%2^31*2^1:Nat):Int)%4294967296=_
 omega
theorem LB (I:In w base g h l os ss)(op a b n:Int)(ha:0<=a)(ha':a<4294967296)(hb:0<=b)(hb':b<4294967296)(hn:0<=n)(hn':n<4294967296):Calls prog 160 #[.pointer (some ⟨g,0,none⟩),.int .i64 op,.int .u32 a,.int .u32 b,.int .u32 n] w fun e w'=>e=.returned (.int .u32 (qD h op a b n))/\w'=w:=by
 obtain⟨c0,rfl,I⟩:=I;have k1:=(I.hcell ab).trans (aW I.ok 0);have p0:=I.ok.nH;have p1:=I.ok.jV;have HN:Hid (qD c0.h op a b n=if op=4 then Wd.lo (a+n)-Wd.lo (a+n)%2 else if op=3\/Wd.holds op a b=true then Wd.lo (c0.h.pc+n)else Wd.lo (c0.h.pc+4)):=rfl;generalize qD c0.h op a b n=N at *
 generalize c0.h.pc=pc at *
 have H:Hid (∀w,_):=fun w=>Ww.wy op a b w ha ha' hb hb'
 by_cases h4:op=4
 ·have b4:(op ==4)=true:=by simp[h4]
  have HE:Hid (N=Wd.lo (a+n)-Wd.lo (a+n)%2):=by unfold Hid;rw[HN.out,at7 h4]
  go_enter func160,ntmps160;go_wp2_with fail;go_ret;refine⟨au ?_,rfl⟩;rw[HE.out,Fy _ ab ab];rfl
 ·have b4:(op ==4)=false:=by simp[h4]
  by_cases h3:op=3
  ·have b3:(op ==3)=true:=by simp[h3]
   have HE:Hid (N=Wd.lo (pc+n)):=by unfold Hid;rw[HN.out,at6 h4,at7 (.inl h3)]
   go_enter func160,ntmps160;go_wp2_with fail;go_ret;exact⟨au (by rw[HE.out];rfl),rfl⟩
  ·have b3:(op ==3)=false:=by simp[h3]
   have HE:Hid (N=if Wd.holds op a b=true then Wd.lo (pc+n)else Wd.lo (pc+4)):=by unfold Hid;rw[HN.out,at6 h4];simp[h3]
   generalize Wd.holds op a b=B at *
   cases B
   ·go_enter func160,ntmps160;go_wp2_with fail;refine(H _).mono ?_;rintro e w' ⟨rfl,rfl⟩;go_wp2_with fail;go_ret;exact⟨au (by rw[HE.out];rfl),rfl⟩
   ·go_enter func160,ntmps160;go_wp2_with fail;refine(H _).mono ?_;rintro e w' ⟨rfl,rfl⟩;go_wp2_with fail;go_ret;exact⟨au (by rw[HE.out];rfl),rfl⟩
end Hc
namespace Hc
variable[Inhabited Hc.bN]
open Mm Hh
variable{op:Int}{W:World}{b:Nat}{h:Hv}{x:Value}
theorem aZ {a:Act}{Q:Exit→Act→World→Prop}(hg:o.guard=none)(s x:Operand)(t:TypeId)(hop:o.op=Op.call { callee:=Callee.builtin Builtin.append,args:=#[s,x],argTypes:=#[t,t] })(base:Nat)(e:TypeId)(i:TypeInfo)(z:Value)(size bytes:Nat)(h1:P.underlying t=some (.slice e))(h2:P.info? e=some i)(h3:i.zero=some z)(h4:i.size=size)(h5:i.bytes=bytes)(h6:z.cells.size=size)(h7:0<size)(v:Value)(n:Nat)(olds:List Value)(hs:a.eval s=v)(hown:w.ownsRow base e size v n olds)(ad:Addr)(m c:Nat)(news:List Value)(hx:a.eval x=.slice (some ad) m c)(hn:news.length=m*size)(hc:∀j u,news[j]?=some u->w.cell? (ad.add j)=some u)(h1c:∀u∈news,u.oneCell'=true)(b1:n+m<=maxLen)(b2:(n+m)*bytes<=140737488355328)(hbase:base<=w.heap.size)(hK:∀v' w',w'.ownsRow base e size v' (n+m) (olds++news)->w.grownBy w' v.ownBlock->K (a.put o.dst v') w'):if Region.wanted o (yielded ops a.tmps)=true then Oper.wp P o a w K Q else E:=by
 have hw:Region.wanted o (yielded ops a.tmps)=true:=by simp[Region.wanted,hg]
 rw[at7 hw];obtain⟨v',w',hrun,r1,r2,_⟩:=au6 (P:=P) w base t o.type e i z size bytes h1 h2 h3 h4 h5 h6 h7 v n olds hown ad m c news hn hc h1c b1 b2 hbase;unfold Oper.wp;simp[execOp,hop,resolve,invoke,builtin,hs,hx,hrun,Result.andThen];exact hK v' w' r1 r2
structure Tb (w:World) (base:Nat):Prop where
 sizes:∀i n,([0,0,0,0,0,0,0,0,0,0,0,0,0,0,0,0,1,2,4]:List Int)[i]?=some n->w.cell? ⟨13,i,none⟩=some (.int .u32 n)
 opers:∀i n,([0,0,0,0,0,0,0,0,0,0,0,0,0,0,0,0,0,0,0,28,31,32,33,36,37,30,34,35]:List Int)[i]?=some n->w.cell? ⟨10,i,none⟩=some (.int .i64 n)
 b1:13<base
 b2:10<base
theorem Tb.of (T:Tb w base)(h:Fr base w w'):Tb w' base:=⟨fun i n e=>(auJ h.below (by exact T.b1)).trans (T.sizes i n e),fun i n e=>(auJ h.below (by exact T.b2)).trans (T.opers i n e),T.b1,T.b2⟩
theorem WL:(prog.info? 175).map (fun i=>(i.zero,i.size,i.bytes))=some (some (.agg #[.int .u32 0,.int .u32 0]),2,8):=al
theorem wz:(prog.info? 37).map (fun i=>(i.zero,i.size,i.bytes))=some (some (.int .u32 0),1,4):=al
theorem lD (I:In w base g h l os ss)(hl:l.length<=140737488351232)(op a x:Int)(h0:0<=a)(h1:a<4294967296)(hx0:0<=x)(hx1:x<4294967296)(ok:dX l op a=false):Calls prog 178 #[.pointer (some ⟨g,0,none⟩),.int .i64 op,.int .u32 a,.int .u32 x] w fun e w'=>e=.returned (.tuple #[])/\In w' base g (h.trap 4) l os ss/\Ch g w w':=by
 have T:Hid (∀W,In W base g h l os ss->∀c,_):=fun W I c=>dK I c
 have HI:=kH I;obtain⟨c0,rfl,I⟩:=I;obtain⟨ao,cap,hm,M⟩:=I.mem.mem;have k1:w.cell? ⟨g,37,none⟩=some (.slice ao l.length cap):=(I.dJ 0).trans (by rw[hm];rfl);have L:Hid (Calls prog 189 #[.slice ao l.length cap,.int .i64 op,.int .u32 a,.int .u32 x] w fun e w'=>∃QS n' cap',e=.returned (.tuple #[.slice QS n' cap',.bool false])/\Gr w w'):=by
  have:=Mm.dO cap op a x M hl h0 h1 hx0 hx1;rw[ok]at this;exact this.mono fun e w' ⟨a1,n1,c1,e1,_,e3⟩=>⟨a1,n1,c1,e1,e3⟩
 generalize l.length=n at *
 go_enter func178,ntmps178;go_wp2_with fail;refine L.mono ?_;rintro e w1 ⟨a1,n1,c1,rfl,G1⟩;have HI1:=kH (HI.of G1);have oQ:=kH ((Ch.refl g w).gr G1);go_wp2_with fail;refine(T _ HI1 4).mono ?_;rintro e w2 ⟨rfl,I2,C2⟩;have HI2:=kH I2;have ll:=kH (oQ.trans C2);go_wp2;refine auc (auV results178 _ _ _) rfl ?_;exact⟨rfl,HI2,ll⟩
theorem wC (cap:Nat)(op a x:Int)(M:Mem w ao n l)(hn:n<=140737488351232)(h0:0<=a)(h1:a<4294967296)(hx0:0<=x)(hx1:x<4294967296)(ok:dX l op a=true):Calls prog 189 #[.slice ao n cap,.int .i64 op,.int .u32 a,.int .u32 x] w fun e w'=>e=.returned (.tuple #[.slice (some ⟨w.heap.size,0,none⟩) n n,.bool true])/\qB w' w.heap.size n (il l op a x)/\Gr w w':=by
 have hl:=M.len;have hok:qy n (gG op) a=true:=by unfold dX at ok;rw[hl]at ok;exact ok
 have e2:il l op a x=put l a.toNat x (gG op):=by unfold il;rw[ok];rfl
 rw[e2];obtain⟨b,o,rfl,hb,hc⟩:=M.spot (xY hok h0);obtain⟨a,rfl⟩:=apt h0;exact Mm.iZ b o n cap l op x a w hn hl ab hb hx0 hx1 hc hok
theorem xZ {x:Int}(ok:dX l op a=true):(il l op a x).length=l.length:=by unfold il;rw[ok];exact iR _ _ _ _
theorem Fz (ok:dX l op a=true):op=16\/op=17\/op=18:=by
 have h:¬gG op=0:=by
  intro h;simp[dX,qy,h]at ok
 unfold gG at h;repeat' split at h
 all_goals omega
theorem Gr.drew {a:World}(h:Gr a w):Gr a w.drew:=h.drewN 1
theorem aC {e sz:Nat}(h:w.ownsRow base e sz v n xs)(q:Gr w w'):w'.ownsRow base e sz v n xs:=aj h fun k o f hk=>q.block k (gs hk).1
theorem dh {e:TypeId}(h:w.ownsRow base e size v n xs)(hn:0<n):∃g cap,v=.slice (some ⟨g,0,none⟩) n cap:=by
 rcases h.2 with⟨_,h0⟩|⟨g,cap,_,hv,_⟩
 ·omega
 ·exact⟨g,cap,hv⟩
theorem dP (h0:W.cell? ⟨b,0,none⟩=some x)(h1:W.cell? ⟨b,1,none⟩=some y):∀j u,([x,y]:List Value)[j]?=some u->W.cell? ((⟨b,0,none⟩:Addr).add j)=some u:=by
 intro j u hj;rw[cz]
 match j,hj with
 |0,hj=>simp at hj;subst hj;exact h0
 |1,hj=>simp at hj;subst hj;exact h1
theorem mU (a b:Int):∀u∈[Value.int .u32 a,Value.int .u32 b],u.oneCell'=true:=by intro u hu;simp at hu;rcases hu with rfl|rfl<;>rfl
theorem iZ (I:In w base g h l os ss)(T:Tb w base)(hl:l.length<=140737488351232)(hss:ss.length<=1000000)(op a x:Int)(h0:0<=a)(h1:a<4294967296)(hx0:0<=x)(hx1:x<4294967296)(ok:dX l op a=true):Calls prog 178 #[.pointer (some ⟨g,0,none⟩),.int .i64 op,.int .u32 a,.int .u32 x] w fun e w'=>e=.returned (.tuple #[])/\In w' base g h (il l op a x) os (ss++[(a,((gG op:Nat):Int))])/\Fr base w w':=by
 obtain⟨c0,rfl,I⟩:=I;obtain⟨ao,cap,hm,M⟩:=I.mem.mem;have k1:w.cell? ⟨g,37,none⟩=some (.slice ao l.length cap):=(I.dJ 0).trans (by rw[hm];rfl);have L:=kH (wC cap op a x M hl h0 h1 hx0 hx1 ok);have hk:=xZ (x:=x) ok;have hop:=Fz ok;obtain⟨i0,hi,hz0,hz1,hz2⟩:=auz WL;generalize il l op a x=k at *
 have HI:=kH I;have HT:=kH T;rcases hop with rfl|rfl|rfl
 ·rw[show((gG 16:Nat):Int)=1 from rfl];go_enter func178,ntmps178;go_wp2_with fail;refine L.mono ?_;rintro e w1 ⟨rfl,R1,G1⟩;have J:=HI.stored G1 R1 hk;have q1:=(Gr.cell G1 _ (by exact HI.lt)).trans k1;have q2:=(HI.of G1).fz 37;have B:Fr base w (w1.setCell ⟨g,37,none⟩ (.slice (some ⟨w.heap.size,0,none⟩) l.length l.length)):=HI.rF.below (((Ch.refl g w).gr G1).setCell _ _);go_wp2_with fail;generalize w1.setCell ⟨g,37,none⟩ (.slice (some ⟨w.heap.size,0,none⟩) l.length l.length)=w2 at *
  have KJ:=J.dJ 2;have fz:=J.fz;have hg:=J.lt;have ks:=(HT.of B).sizes 16 1 rfl;have HJ:=kH J;have HB:=kH B;go_region_law (refine aZ rfl (.tmp 33) (.tmp 41) 140 rfl base 175 i0 _ 2 8 underlying140 hi hz0 hz1 hz2 rfl an c0.av ss.length (rE ss) ar (aC HJ.av b9) ⟨w2.heap.size,0,none⟩ 1 1 [.int .u32 a,.int .u32 (IntKind.u32.wrap (a+1))] ar rfl (dP aq aq) (mU _ _) bj ab (by have:=HJ.ay;simp;omega) ?_;intro v' w' hown hgrow;obtain⟨g',cp,rfl⟩:=dh hown ab;obtain⟨c39,f39,F⟩:=HJ.gJ (n:=ss.length+1) b9 hgrow (ss':=ss++[(a,1)]) aq (by rw[jX];exact hown);have HF:Hid _:=F;clear F hown hgrow)
  all_goals
   go_end0;exact⟨rfl,HF.1.rF,HB.trans HF.2⟩
 ·rw[show((gG 17:Nat):Int)=2 from rfl];go_enter func178,ntmps178;go_wp2_with fail;refine L.mono ?_;rintro e w1 ⟨rfl,R1,G1⟩;have J:=HI.stored G1 R1 hk;have q1:=(Gr.cell G1 _ (by exact HI.lt)).trans k1;have q2:=(HI.of G1).fz 37;have B:Fr base w (w1.setCell ⟨g,37,none⟩ (.slice (some ⟨w.heap.size,0,none⟩) l.length l.length)):=HI.rF.below (((Ch.refl g w).gr G1).setCell _ _);go_wp2_with fail;generalize w1.setCell ⟨g,37,none⟩ (.slice (some ⟨w.heap.size,0,none⟩) l.length l.length)=w2 at *
  have KJ:=J.dJ 2;have fz:=J.fz;have hg:=J.lt;have ks:=(HT.of B).sizes 17 2 rfl;have HJ:=kH J;have HB:=kH B;go_region_law (refine aZ rfl (.tmp 33) (.tmp 41) 140 rfl base 175 i0 _ 2 8 underlying140 hi hz0 hz1 hz2 rfl an c0.av ss.length (rE ss) ar (aC HJ.av b9) ⟨w2.heap.size,0,none⟩ 1 1 [.int .u32 a,.int .u32 (IntKind.u32.wrap (a+2))] ar rfl (dP aq aq) (mU _ _) bj ab (by have:=HJ.ay;simp;omega) ?_;intro v' w' hown hgrow;obtain⟨g',cp,rfl⟩:=dh hown ab;obtain⟨c39,f39,F⟩:=HJ.gJ (n:=ss.length+1) b9 hgrow (ss':=ss++[(a,2)]) aq (by rw[jX];exact hown);have HF:Hid _:=F;clear F hown hgrow)
  all_goals
   go_end0;exact⟨rfl,HF.1.rF,HB.trans HF.2⟩
 ·rw[show((gG 18:Nat):Int)=4 from rfl];go_enter func178,ntmps178;go_wp2_with fail;refine L.mono ?_;rintro e w1 ⟨rfl,R1,G1⟩;have J:=HI.stored G1 R1 hk;have q1:=(Gr.cell G1 _ (by exact HI.lt)).trans k1;have q2:=(HI.of G1).fz 37;have B:Fr base w (w1.setCell ⟨g,37,none⟩ (.slice (some ⟨w.heap.size,0,none⟩) l.length l.length)):=HI.rF.below (((Ch.refl g w).gr G1).setCell _ _);go_wp2_with fail;generalize w1.setCell ⟨g,37,none⟩ (.slice (some ⟨w.heap.size,0,none⟩) l.length l.length)=w2 at *
  have KJ:=J.dJ 2;have fz:=J.fz;have hg:=J.lt;have ks:=(HT.of B).sizes 18 4 rfl;have HJ:=kH J;have HB:=kH B;go_region_law (refine aZ rfl (.tmp 33) (.tmp 41) 140 rfl base 175 i0 _ 2 8 underlying140 hi hz0 hz1 hz2 rfl an c0.av ss.length (rE ss) ar (aC HJ.av b9) ⟨w2.heap.size,0,none⟩ 1 1 [.int .u32 a,.int .u32 (IntKind.u32.wrap (a+4))] ar rfl (dP aq aq) (mU _ _) bj ab (by have:=HJ.ay;simp;omega) ?_;intro v' w' hown hgrow;obtain⟨g',cp,rfl⟩:=dh hown ab;obtain⟨c39,f39,F⟩:=HJ.gJ (n:=ss.length+1) b9 hgrow (ss':=ss++[(a,4)]) aq (by rw[jX];exact hown);have HF:Hid _:=F;clear F hown hgrow)
  all_goals
   go_end0;exact⟨rfl,HF.1.rF,HB.trans HF.2⟩
theorem dO (I:In w base g h l os ss)(T:Tb w base)(hl:l.length<=140737488351232)(hss:ss.length<=1000000)(op a x:Int)(h0:0<=a)(h1:a<4294967296)(hx0:0<=x)(hx1:x<4294967296):Calls prog 178 #[.pointer (some ⟨g,0,none⟩),.int .i64 op,.int .u32 a,.int .u32 x] w fun e w'=>e=.returned (.tuple #[])/\In w' base g (aH h l op a x).h (aH h l op a x).m os (ss++(aH h l op a x).av)/\Fr base w w':=by
 unfold aH;cases ok:dX l op a with
 |false=>
  refine(lD I hl op a x h0 h1 hx0 hx1 ok).mono ?_;rintro e w' ⟨rfl,J,C⟩;exact⟨rfl,by simpa using J,I.below C⟩
 |true=>exact iZ I T hl hss op a x h0 h1 hx0 hx1 ok
theorem one_cell (h0:W.cell? ⟨b,0,none⟩=some x):∀j u,([x]:List Value)[j]?=some u->W.cell? ((⟨b,0,none⟩:Addr).add j)=some u:=by
 intro j u hj;rw[cz]
 match j,hj with
 |0,hj=>simp at hj;subst hj;exact h0
theorem one_one (a:Int):∀u∈[Value.int .u32 a],u.oneCell'=true:=by intro u hu;simp at hu;subst hu;rfl
theorem tL (I:In w base g h l os ss)(hos:os.length<=1000000)(Yx:rg h 17=1):Calls prog 181 #[.pointer (some ⟨g,0,none⟩)] w fun e w'=>e=.returned (.tuple #[])/\In w' base g h l (os++[rg h 10]) ss/\Fr base w w':=by
 obtain⟨c0,rfl,I⟩:=I;have k17:w.cell? ⟨g,17,none⟩=some (.int .u32 1):=by rw[<-Yx];exact I.reg ab
 have k10:w.cell? ⟨g,10,none⟩=some (.int .u32 (rg c0.h 10)):=I.reg ab;have k38:=I.dJ 1;have fz:=I.fz;have hg:=I.lt;have HJ:Hid _:=I;obtain⟨i0,hi,hz0,hz1,hz2⟩:=auz wz;generalize rg c0.h 10=x at *
 go_enter func181,ntmps181;go_wp2_with fail;go_region_law (refine aZ rfl (.tmp 22) (.tmp 29) 36 rfl base 37 i0 _ 1 4 underlying36 hi hz0 hz1 hz2 rfl an c0.out os.length (os.map (Value.int .u32)) ar (aC HJ.out.out b9) ⟨w.heap.size,0,none⟩ 1 1 [.int .u32 x] ar rfl (one_cell aq) (one_one _) bj ab (by have:=HJ.out.ay;simp;omega) ?_;intro v' w' hown hgrow;obtain⟨g',cp,rfl⟩:=dh hown ab;obtain⟨c38,f38,F⟩:=HJ.out.qF (n:=os.length+1) b9 hgrow (os':=os++[x]) aq (by rw[aqb];exact hown);have HF:Hid _:=F;clear F hown hgrow)
 all_goals
  go_end0;exact⟨rfl,HF.1.rF,HF.2⟩
theorem tN (I:In w base g h l os ss)(Yx:¬rg h 17=1):Calls prog 181 #[.pointer (some ⟨g,0,none⟩)] w fun e w'=>e=.returned (.tuple #[])/\In w' base g (if rg h 17=0 then h.halt else h.trap 5) l os ss/\Fr base w w':=by
 have T:Hid (∀c,Calls prog 134 #[.pointer (some ⟨g,0,none⟩),.int .i64 c] w fun e w'=>e=.returned (.tuple #[])/\In w' base g (h.trap c) l os ss/\Ch g w w'):=fun c=>dK I c
 have HI:=kH I;obtain⟨c0,rfl,I⟩:=I;have k17:w.cell? ⟨g,17,none⟩=some (.int .u32 (rg c0.h 17)):=I.reg ab;have QU:=(I.hcell ab).trans (aW I.ok 3);have fz:=I.fz;have o1:=I.ok.halt;have HJ:=kH (I.set ab (mR I.ok 1) o1);generalize c0.h.state=y at *
 generalize hx:rg c0.h 17=x at *
 by_cases h0:x=0
 ·subst h0;rw[at7 rfl];clear T;go_enter func181,ntmps181;go_wp2_with fail;go_end0;exact⟨rfl,HJ.rF,HI.below ((Ch.refl g w).setCell _ _)⟩
 ·rw[at6 h0];have b0:(x ==0)=false:=by simp[h0]
  have b1:(x ==1)=false:=by simp[Yx]
  go_enter func181,ntmps181;go_wp2_with fail;refine(T 5).mono ?_;rintro e w' ⟨rfl,I2,C2⟩;have HI2:=kH I2;have ll:=kH C2;go_wp2_with fail;go_end0;exact⟨rfl,HI2,HI.below ll⟩
theorem tO (I:In w base g h l os ss)(hos:os.length<=1000000):Calls prog 181 #[.pointer (some ⟨g,0,none⟩)] w fun e w'=>e=.returned (.tuple #[])/\In w' base g (bA h l).h l (os++(bA h l).out) ss/\Fr base w w':=by
 unfold bA;by_cases h1:rg h 17=1
 ·rw[ak,at7 h1];exact tL I hos h1
 ·refine(tN I h1).mono ?_;rintro e w' ⟨rfl,J,B⟩;refine⟨rfl,?_,B⟩;by_cases h0:rg h 17=0
  ·rw[at7 h0]at J ⊢;simpa using J
  ·rw[at6 h0]at J;rw[at6 h0,at6 h1];simpa using J
end Hc
namespace Kc
variable[Inhabited Hc.bN]
open Mm Ts Hc
variable{bs:List Bv}{b:Bv}{u:Value}{j k:Nat}
structure Bw (w:World) (bs:List Bv) (xs:List Value):Prop where
 len:xs.length=bs.length*2
 at_:∀(j:Nat) (b:Bv),bs[j]?=some b->∃u v,xs[j*2]?=some u/\xs[j*2+1]?=some v/\Bc w b u v
theorem Bc.ones (h:Bc w b u v):u.oneCell'=true/\v.oneCell'=true/\∃sa sn sc,v=.slice sa sn sc:=by obtain⟨rfl,_,sa,sn,sc,rfl,_⟩:=h;exact⟨rfl,rfl,sa,sn,sc,rfl⟩
def bJ (f t:Int) (bs:List Bv):List Bv:=bs.filter fun b=>!hasB b f t
theorem wE (h:bs[j]?=some b):bJ f t (bs.take (j+1))=if hasB b f t=true then bJ f t (bs.take j)else bJ f t (bs.take j)++[b]:=by
 unfold bJ;rw[apU,h,List.filter_append];split
 ·rename_i q;simp[q]
 ·rename_i q;simp[q]
theorem LC (f t:Int)(bs:List Bv)(j:Nat):(bJ f t (bs.take j)).length<=j:=by unfold bJ;refine apr (List.length_filter_le _ _) ?_;simp;omega
theorem LD:(prog.info? 64).map (fun i=>(i.zero,i.size,i.bytes))=some (some (.agg #[.int .u32 0,.slice none 0 0]),2,32):=al
theorem wF:(prog.info? 54).map (·.size)=some 4:=al
theorem aX (g:Gr w w')(h:w.heap[k]?=some x):w'.heap[k]?=some x:=by rw[g.block k (gs h).1];exact h
theorem dL {W:World}(O:W.ownsRow base 64 2 V n xs)(q:W.grownBy w' V.ownBlock){t:Nat}{f:Nat×Nat}(h:W.heap[k]?=some (.cells c t f))(ht:t≠64):w'.heap[k]?=some (.cells c t f):=by
 rw[q.block k (gs h).1 (fun e=>by
  rcases O.2 with⟨h0,_⟩|⟨g',cp,cur,hv,_,hg,_⟩
  ·rw[h0]at e;cases e
  ·rw[hv]at e;injection e with e;exact aa h hg ht e)]
 exact h
theorem tQ (h1:u.oneCell'=true)(h2:v.oneCell'=true):∀x∈[u,v],x.oneCell'=true:=by intro x hx;simp only[apx,apB,auw]at hx;rcases hx with rfl|rfl<;>assumption
end Kc
namespace Kc
variable[Inhabited Hc.bN]
open Mm Ts Hc
variable{bs:List Bv}{cp:Nat}
def o6 (k:Int):List Bv→Nat→List Bv
 | [],_=>[]
 |b::r,i=>if(i:Int)=k then o6 k r (i+1)else b::o6 k r (i+1)
theorem LF (k:Int):∀(l:List Bv) (i:Nat),(o6 k l i).length≤l.length
 | [],i=>apn _
 |b::r,i=>by
  have:=LF k r (i+1);unfold o6;split
  ·simp;omega
  ·simp;omega
theorem Im (O:w.ownsRow base 64 2 (.slice (some ⟨g,0,none⟩) n cp) n xs):g<w.heap.size/\n<=cp/\∀j u,xs[j]?=some u->w.cell? ⟨g,j,none⟩=some u:=by
 refine⟨(O.lt g rfl).2,?_,fun j u hu=>?_⟩
 ·rcases O.2 with⟨h,_⟩|⟨g',cap,cur,e,_,_,h,_⟩
  ·cases h
  ·injection e with _ _ e3;omega
 ·have:=O.cells (g:=g) rfl j u hu;rwa[cz,apu]at this
theorem Yy (O:w.ownsRow base 64 2 (.slice (some ⟨g,0,none⟩) n cp) n xs)(W:Bw w bs xs)(k m:Nat)(hm:bs.length=k+m):Bs w (some ⟨g,k*2,none⟩) m (bs.drop k):=by
 obtain⟨hg,_,hc⟩:=Im O;refine⟨aE,fun _=>⟨g,k*2,rfl,hg,fun j x hx=>?_⟩⟩;rw[ap3]at hx;obtain⟨u,v,h1,h2,h3⟩:=W.at_ (k+j) x hx;refine⟨u,v,?_,?_,h3⟩
 ·rw[show k*2+j*2=(k+j)*2 by omega];exact hc _ _ h1
 ·rw[show k*2+j*2+1=(k+j)*2+1 by omega];exact hc _ _ h2
theorem Yz (w:World)(a:Option Addr):Bs w a 0 []:=⟨rfl,fun h=>absurd h ab⟩
end Kc
namespace Kc
variable[Inhabited Hc.bN]
open Mm Ts Hc
def wG (pc:Int) (bs:List Bv):Bv:=if 0<=place pc bs 0 then bs.getD (place pc bs 0).toNat ⟨0,[]⟩else⟨0,[]⟩
def jy (room:Int) (bs:List Bv) (b0:Bv):List Bv:=if room<((o6 (place b0.pc bs 0) bs 0++[b0]).length:Int)then(o6 (place b0.pc bs 0) bs 0++[b0]).drop 1 else o6 (place b0.pc bs 0) bs 0++[b0]
def rX (room pu:Int) (bs:List Bv) (b0:Bv):Int:=if room<((o6 (place b0.pc bs 0) bs 0++[b0]).length:Int)then wrap64 (pu+1)else pu
theorem fU (pc:Int):∀(bs:List Bv) (k:Nat),place pc bs k = -1∨∃j x,place pc bs k=((k+j:Nat):Int)∧bs[j]?=some x
 | [],k=>.inl rfl
 |b::r,k=>by
  unfold place;split
  ·exact .inr ⟨0,b,rfl,rfl⟩
  ·rcases fU pc r (k+1)with h|⟨j,x,h,hx⟩
   ·exact .inl h
   ·exact .inr ⟨j+1,x,by rw[h];congr 1;omega,by simpa using hx⟩
end Kc
namespace Kc
variable[Inhabited Hc.bN]
open Mm Ts Hc
variable{w w' a:World}{b:Bv}{ao:Option Addr}{n base b0 g cap j b1:Nat}{bs:List Bv}{v:Value}{is:List Iv}{xs cs:List Value}
def QV (is:List Iv):List Value:=is.flatMap Ll
theorem FC (is:List Iv):(QV is).length=is.length*5:=by
 induction is with
 |nil=>rfl
 |cons p r ih=>simp only[QV,apL,apo,apH]at ih ⊢;rw[ih];simp[Ll];omega
theorem ym:∀(is:List Iv) (i j:Nat) (x:Iv),is[i]?=some x→j<5→(QV is)[i*5+j]?=(Ll x)[j]?
 | [],i,j,x,h,_=>by simp at h
 |p::r,0,j,x,h,hj=>by
  simp at h;subst h;show(Ll p++QV r)[0*5+j]?=_
  rw[aqI,apu,apA (by simpa[Ll]using hj)]
 |p::r,i+1,j,x,h,hj=>by
  have ih:=ym r i j x (by simpa using h) hj;show(Ll p++QV r)[(i+1)*5+j]?=_
  rw[apv (by simp[Ll];omega)];rw[show(i+1)*5+j-(Ll p).length=i*5+j by simp[Ll];omega];exact ih
theorem R6 (is:List Iv):∀u∈QV is,u.oneCell'=true:=by intro u hu;simp only[QV,arp]at hu;obtain⟨i,_,hu⟩:=hu;simp only[Ll,apx,apB,auw]at hu;rcases hu with rfl|rfl|rfl|rfl|rfl<;>rfl
structure Bv.Ok (b:Bv):Prop where
 pc:0<=b.pc/\b.pc<4294967296
 is:∀i∈b.is,i.Ok
 sz:b.is.length*40<=140737488351232
theorem Bc.ok {x y:Value}(h:Bc w b x y):b.Ok:=by obtain⟨_,p,sa,sn,sc,_,I,hs⟩:=h;exact⟨p,I.ok,by rw[I.len];exact hs⟩
theorem Bs.ok (h:Bs w ao n bs):∀b∈bs,b.Ok:=fun b hb=>by obtain⟨j,hj⟩:=aqe.1 hb;obtain⟨g,o,_,_,hc⟩:=h.spot (by rw[<-h.len];exact Nat.lt_of_le_of_lt (apF _) (apj.1 hj).1);obtain⟨u,v,_,_,B⟩:=hc j b hj;exact B.ok
def Io (w:World) (base:Nat) (v:Value) (is:List Iv):Prop:=w.ownsRow base 59 5 v is.length (QV is)
theorem Io.to (h:Io w base v is)(q:∀(k:Nat) (o:Array Value) (f:Nat×Nat),w.heap[k]?=some (.cells o 59 f)->w'.heap[k]?=w.heap[k]?):Io w' base v is:=aj h q
theorem Io.of (h:Io w base v is)(q:Gr w w'):Io w' base v is:=aC h q
theorem Io.low (h:Io w base v is)(hb:b0<=base):Io w b0 v is:=by
 obtain⟨h1,h2⟩:=h;refine⟨h1,?_⟩;rcases h2 with h2|⟨g,cp,cur,e1,e2,e3⟩
 ·exact .inl h2
 ·exact .inr ⟨g,cp,cur,e1,ab,e3⟩
theorem Io.shape (h:Io w base v is):∃a c,v=.slice a is.length c:=by
 rcases h.2 with⟨rfl,e⟩|⟨g,cp,cur,rfl,_⟩
 ·exact⟨none,0,by rw[e]⟩
 ·exact⟨_,_,rfl⟩
theorem Io.bc (h:Io w base v b.is)(o:b.Ok):Bc w b (.int .u32 b.pc) v:=by
 obtain⟨a,c,rfl⟩:=h.shape;refine⟨rfl,o.pc,a,_,c,rfl,⟨rfl,o.is,fun hn=>?_⟩,o.sz⟩;obtain⟨g,cp,e⟩:=dh h hn;injection e with e1 _ _;subst e1;have hl:=(h.lt g rfl).2;refine⟨g,0,rfl,hl,fun j i hj=>?_⟩;have q:∀t u,(Ll i)[t]?=some u->w.cell? ⟨g,j*5+t,none⟩=some u:=fun t u hu=>by
  have ht:=(apj.1 hu).1;have:=h.cells (g:=g) rfl (j*5+t) u (by rw[ym _ _ _ _ hj ht];exact hu);rwa[cz,apu]at this
 rw[apu];have q0:=q 0 _ rfl;rw[aqt]at q0;exact⟨q0,q 1 _ rfl,q 2 _ rfl,q 3 _ rfl,q 4 _ rfl⟩
structure Bx (w:World) (base:Nat) (bs:List Bv) (xs:List Value):Prop where
 len:xs.length=bs.length*2
 at_:∀(j:Nat) (b:Bv),bs[j]?=some b->∃v,xs[j*2]?=some (.int .u32 b.pc)/\xs[j*2+1]?=some v/\Io w base v b.is
theorem Bx.nil (w:World)(base:Nat):Bx w base [] []:=⟨rfl,fun j b h=>by simp at h⟩
theorem Bx.to (h:Bx w base bs xs)(q:∀(k:Nat) (o:Array Value) (f:Nat×Nat),w.heap[k]?=some (.cells o 59 f)->w'.heap[k]?=w.heap[k]?):Bx w' base bs xs:=
 ⟨h.len,fun j b hb=>by
  obtain⟨v,h1,h2,h3⟩:=h.at_ j b hb;exact⟨v,h1,h2,h3.to q⟩⟩
theorem Bx.of (h:Bx w base bs xs)(q:Gr w w'):Bx w' base bs xs:=h.to fun k o f hk=>q.block k (gs hk).1
theorem Bx.low (h:Bx w base bs xs)(hb:b0<=base):Bx w b0 bs xs:=
 ⟨h.len,fun j b hj=>by
  obtain⟨v,h1,h2,h3⟩:=h.at_ j b hj;exact⟨v,h1,h2,h3.low hb⟩⟩
theorem Bx.snoc (h:Bx w base bs xs)(hb:Io w base v b.is):Bx w base (bs++[b]) (xs++[.int .u32 b.pc,v]):=by
 have hl:=h.len;refine⟨by simp[hl];omega,fun j c hc=>?_⟩;by_cases hj:j<bs.length
 ·rw[apA hj]at hc;obtain⟨y,h1,h2,h3⟩:=h.at_ j c hc;exact⟨y,by rw[apA ab];exact h1,by rw[apA ab];exact h2,h3⟩
 ·rw[apv ab]at hc;have hj2:j=bs.length:=by
   have:=(apj.1 hc).1;simp at this;omega
  subst hj2;simp at hc;subst hc;refine⟨v,?_,?_,hb⟩
  ·rw[apv ab,hl,Nat.sub_self];rfl
  ·rw[apv ab,hl,show bs.length*2+1-bs.length*2=1 by omega];rfl
theorem Bx.one (h:Bx w base bs xs):∀u∈xs,u.oneCell'=true:=fun u hu=>by
 obtain⟨i,hi⟩:=aqe.1 hu;have hlt:=(apj.1 hi).1;have hl:=h.len;obtain⟨b,hb⟩:∃b,bs[i/2]?=some b:=⟨_,api ab⟩;obtain⟨v,h1,h2,h3⟩:=h.at_ _ b hb;rcases ark i with e|e
 ·rw[show i/2*2=i by omega,hi]at h1;injection h1 with h1;subst h1;rfl
 ·rw[show i/2*2+1=i by omega,hi]at h2;injection h2 with h2;subst h2;obtain⟨a,c,rfl⟩:=h3.shape;rfl
theorem Bx.take (h:Bx w base bs xs)(k:Nat):Bx w base (bs.take k) (xs.take (k*2)):=by
 have hl:=h.len;refine⟨by rw[ap5,ap5,hl];omega,fun j b hj=>?_⟩;rw[apS]at hj;split at hj
 ·obtain⟨v,h1,h2,h3⟩:=h.at_ j b hj;refine⟨v,?_,?_,h3⟩
  ·rw[apS,dU];exact h1
  ·rw[apS,dU];exact h2
 ·cases hj
theorem Bx.drop (h:Bx w base bs xs)(k:Nat):Bx w base (bs.drop k) (xs.drop (k*2)):=by
 have hl:=h.len;refine⟨by rw[aqh,aqh,hl];omega,fun j b hj=>?_⟩;rw[ap3]at hj;obtain⟨v,h1,h2,h3⟩:=h.at_ _ b hj;refine⟨v,?_,?_,h3⟩
 ·rw[ap3,show k*2+j*2=(k+j)*2 by omega];exact h1
 ·rw[ap3,show k*2+(j*2+1)=(k+j)*2+1 by omega];exact h2
theorem Bx.app {ds:List Bv}(h:Bx w base ds xs)(k:Bx w base bs ys):Bx w base (ds++bs) (xs++ys):=by
 have hl:=h.len;have kl:=k.len;refine⟨by rw[apo,apo,hl,kl];omega,fun j b hj=>?_⟩;by_cases hlt:j<ds.length
 ·rw[apA hlt]at hj;obtain⟨v,h1,h2,h3⟩:=h.at_ j b hj;exact⟨v,by rw[apA ab];exact h1,by rw[apA ab];exact h2,h3⟩
 ·rw[apv ab]at hj;obtain⟨v,h1,h2,h3⟩:=k.at_ _ b hj;refine⟨v,?_,?_,h3⟩
  ·rw[apv ab,show j*2-xs.length=(j-ds.length)*2 by omega];exact h1
  ·rw[apv ab,show j*2+1-xs.length=(j-ds.length)*2+1 by omega];exact h2
theorem Bx.bw (h:Bx w base bs xs)(o:∀b∈bs,b.Ok):Bw w bs xs:=
 ⟨h.len,fun j b hj=>by
  obtain⟨v,h1,h2,h3⟩:=h.at_ j b hj;exact⟨_,v,h1,h2,h3.bc (o b (aps hj))⟩⟩
structure Bq (w:World) (ao:Option Addr) (n:Nat) (bs:List Bv):Prop where
 len:bs.length=n
 spot:0<n->∃b o,ao=some ⟨b,o,none⟩/\b<w.heap.size/\∀j x,bs[j]?=some x->w.cell? ⟨b,o+j*2,none⟩=some (.int .u32 x.pc)/\∃sa sc,w.cell? ⟨b,o+j*2+1,none⟩=some (.slice sa x.is.length sc)
theorem Bq.of (h:Bq w ao n bs)(g:Gr w w'):Bq w' ao n bs:=
 ⟨h.len,fun hn=>by
  obtain⟨b,o,e,hb,hc⟩:=h.spot hn;refine⟨b,o,e,apq hb g.size,fun j i hj=>?_⟩;obtain⟨h0,sa,sc,h1⟩:=hc j i hj;exact⟨(g.cell _ (by exact hb)).trans h0,sa,sc,(g.cell _ (by exact hb)).trans h1⟩⟩
theorem Bs.bq (h:Bs w ao n bs):Bq w ao n bs:=
 ⟨h.len,fun hn=>by
  obtain⟨b,o,e,hb,hc⟩:=h.spot hn;refine⟨b,o,e,hb,fun j x hj=>?_⟩;obtain⟨u,v,h0,h1,rfl,_,sa,sn,sc,rfl,I,_⟩:=hc j x hj;exact⟨h0,sa,sc,by rw[I.len];exact h1⟩⟩
structure Rw (w:World) (base g cap:Nat) (cs:List Value):Prop where
 low:base<=g
 row:w.heap[g]?=some (.cells cs.toArray 64 (0,0))
 len:cs.length=cap*2
 cap:cap<=maxLen
theorem Rw.open (h:w.ownsRow base 64 2 (.slice (some ⟨g,0,none⟩) n cap) n xs):n<=cap/\∃cs,Rw w base g cap cs/\cs.take (n*2)=xs:=by
 obtain⟨h1,h2⟩:=h;rcases h2 with⟨e,_⟩|⟨g',cp,cur,e,hb,hg,hn,hm,hs,ht⟩
 ·cases e
 ·injection e with e1 _ e3;injection e1 with e1;injection e1 with e1;subst e1;subst e3;obtain⟨cs⟩:=cur;exact⟨hn,cs,⟨hb,hg,by simpa using hs,hm⟩,ht⟩
theorem Rw.own {m:Nat}(h:Rw w base g cap cs)(hm:m<=cap):w.ownsRow base 64 2 (.slice (some ⟨g,0,none⟩) m cap) m (cs.take (m*2)):=⟨by rw[ap5,h.len];omega,.inr ⟨g,cap,_,rfl,h.low,h.row,hm,h.cap,by simpa using h.len,rfl⟩⟩
theorem Rw.cell (h:Rw w base g cap cs){u:Value}(hu:cs[j]?=some u):w.cell? ⟨g,j,none⟩=some u:=by rw[cr h.row];simpa using hu
theorem Rw.isS (h:Rw w base g cap cs)(hj:j<cap*2):(w.cell? ⟨g,j,none⟩).isSome=true:=by rw[h.cell (api (by rw[h.len];exact hj))];rfl
theorem Rw.fz (h:Rw w base g cap cs)(j:Nat):w.frozen? ⟨g,j,none⟩=false:=lh h.row
theorem Rw.lt (h:Rw w base g cap cs):g<w.heap.size:=(gs h.row).1
theorem Rw.of (h:Rw w base g cap cs)(q:Gr w w'):Rw w' base g cap cs:=⟨h.low,aX q h.row,h.len,h.cap⟩
theorem hsC {t:Nat}(g:Nat):∀(vs:List Value) (o:Nat) (w:World) (cs:List Value),w.heap[g]?=some (.cells cs.toArray t (0,0))→o+vs.length≤cs.length→(w.setCells g o vs).heap[g]?=some (.cells (cs.take o++vs++cs.drop (o+vs.length)).toArray t (0,0))
 | [],o,w,cs,h,_=>by simp[World.setCells,h]
 |v::r,o,w,cs,h,hl=>by
  rw[World.setCells];have h1:=aul w g o _ _ v h;simp only[apl]at h1;simp only[apH]at hl;rw[hsC g r (o+1) _ (cs.set o v) h1 aE];have e1:(cs.set o v).take (o+1)=cs.take o++[v]:=by
   rw[apU,List.take_set,List.set_eq_of_length_le aE];simp[show o<cs.length by omega]
  have e2:(cs.set o v).drop (o+1+r.length)=cs.drop (o+(r.length+1)):=by
   rw[List.drop_set_of_lt ab];congr 1;omega
  rw[e1,e2];simp only[apH,aqa,apZ,apO]
theorem chC {g:Nat}{a w:World}(h:Ch g a w):∀(vs:List Value) (o:Nat),Ch g a (w.setCells g o vs)
 | [],o=>h
 |v::r,o=>by rw[World.setCells];exact chC (h.setCell o v) r (o+1)
theorem Rw.set (h:Rw w base g cap cs){o:Nat}{vs:List Value}(ho:o+vs.length<=cap*2):Rw (w.setCells g o vs) base g cap (cs.take o++vs++cs.drop (o+vs.length)):=⟨h.low,hsC g vs o w cs h.row (by rw[h.len];exact ho),by simp only[apo,ap5,aqh,h.len];omega,h.cap⟩
theorem Rw.keep (h:Rw w base g cap cs)(q:Ch g w w')(k:Nat)(o:Array Value)(t:Nat)(f:Nat×Nat)(ht:t≠64)(hk:w.heap[k]?=some (.cells o t f)):w'.heap[k]?=w.heap[k]?:=q.block k (gs hk).1 (fun e=>aa hk h.row ht (by injection e))
theorem Bx.ch (B:Bx w b1 bs xs)(h:Rw w base g cap cs)(q:Ch g w w'):Bx w' b1 bs xs:=B.to fun k o f hk=>h.keep q k o _ f an hk
theorem WM (h:Gr a w)(hg:a.heap.size<=g)(q:Ch g w w'):Gr a w':=Gr.grown h q (fun k e=>by injection e with e;omega)
theorem Rw.bq (h:Rw w base g cap cs)(B:Bx w b1 bs (cs.take (n*2)))(hl:bs.length=n):Bq w (some ⟨g,0,none⟩) n bs:=
 ⟨hl,fun hn=>⟨g,0,rfl,h.lt,fun j x hj=>by
  obtain⟨v,h1,h2,h3⟩:=B.at_ j x hj;obtain⟨a,c,rfl⟩:=h3.shape;rw[apS]at h1 h2;split at h1
  ·split at h2
   ·rw[apu];exact⟨h.cell h1,a,c,h.cell h2⟩
   ·cases h2
  ·cases h1⟩⟩
def Ip (m:Nat):List Value:=(Builtin.zeroCells #[.int .u32 0,.slice none 0 0] m).toList
theorem sG (m:Nat):(Ip m).length=m*2:=by simp[Ip,size_zeroCells]
theorem R7 (m:Nat):∀u∈Ip m,u.oneCell'=true:=fun u hu=>by simp only[Ip,Builtin.zeroCells]at hu;simp at hu;obtain⟨i,_,rfl⟩:=hu;rcases ark i with e|e<;>simp[e]<;>rfl
theorem tT (w:World)(t e ty:TypeId)(ht:P.underlying t=some (.slice e))(hv:∀w,(zeroValue e).run P w=.ok (.agg #[.int .u32 0,.slice none 0 0]) w)(b o n c:Nat)(hn:0<n)(hc:∀j,j<n*2->(w.cell? ⟨b,o+j,none⟩).isSome=true)(hf:∀j,j<n*2->w.frozen? ⟨b,o+j,none⟩=false):(Builtin.clear_ #[t] ty #[.slice (some ⟨b,o,none⟩) n c]).run P w=.ok (.tuple #[]) (w.setCells b o (Ip n)):=by have hst:=run_storeCells_cells (P:=P) b o (Ip n) 0 w (by rw[sG];simpa using hc) (by rw[sG];simpa using hf) (R7 n);simp only[aqt]at hst;obtain⟨m,rfl⟩:∃m,n=m+1:=⟨n-1,ab⟩;have hzc:(Value.agg #[.int .u32 0,.slice none 0 0]).cells=#[.int .u32 0,.slice none 0 0]:=rfl;unfold Ip at hst ⊢;simp[Builtin.clear_,run_underlying ht,hv,hzc,hst]
end Kc
namespace Kc
variable[Inhabited Hc.bN]
open Mm Ts Hc
variable{p:Bv->Bool}{B:Nat}
theorem aM {a b:Bool}(h:a=b):Ending.returned (.bool a)=Ending.returned (.bool b):=by rw[h]
def jf (p:Bv→Bool):List Bv→Nat→Int
 | [],_ => -1
 |b::bs,k=>if p b=true then(k:Int)else jf p bs (k+1)
theorem kK (pc:Int):∀(bs:List Bv) (k:Nat),jf (fun b=>decide (b.pc=pc)) bs k=place pc bs k
 | [],k=>rfl
 |b::r,k=>by
  unfold jf place;rw[kK pc r (k+1)];by_cases h:b.pc=pc<;>simp[h]
theorem jY:∀{bs:List Bv} {k:Nat},(∀(i:Nat) (x:Bv),bs[i]?=some x→p x=false)→jf p bs k = -1
 | [],k,_=>rfl
 |b::r,k,h=>by
  unfold jf;rw[at6 (by rw[h 0 b rfl];simp)];exact jY fun i x hx=>h (i+1) x (by simpa using hx)
theorem o8:∀{bs:List Bv} {j k:Nat} {x:Bv},bs[j]?=some x→p x=true→(∀(i:Nat) (y:Bv),i<j→bs[i]?=some y→p y=false)→jf p bs k=((k+j:Nat):Int)
 | [],j,k,x,h,_,_=>by simp at h
 |b::r,0,k,x,h,e,_=>by
  simp at h;subst h;unfold jf;rw[at7 e,aqt]
 |b::r,j+1,k,x,h,e,hn=>by
  unfold jf;rw[at6 (by rw[hn 0 b ab rfl];simp)];have:=o8 (k:=k+1) (bs:=r) (j:=j) (by simpa using h) e fun i y hi hy=>hn (i+1) y ab (by simpa using hy)
  rw[this];congr 1;omega
theorem R8 (p:Bv->Bool):∀(bs:List Bv),(jf p bs 0 = -1/\∀(i:Nat) (x:Bv),bs[i]?=some x->p x=false)\/∃(j:Nat) (x:Bv),jf p bs 0=(j:Int)/\bs[j]?=some x/\p x=true/\∀(i:Nat) (y:Bv),i<j->bs[i]?=some y->p y=false:=fun bs=>by
 by_cases h:∃(j:Nat) (x:Bv),bs[j]?=some x/\p x=true
 ·obtain⟨j,hj⟩:=h;induction j using Nat.strongRecOn with
  |ind j ih=>
   by_cases h2:∃i:Nat,i<j/\∃x:Bv,bs[i]?=some x/\p x=true
   ·obtain⟨i,hi,hx⟩:=h2;exact ih i hi hx
   ·obtain⟨x,hx,hp⟩:=hj;have ha:∀(i:Nat) (y:Bv),i<j->bs[i]?=some y->p y=false:=fun i y hi hy=>by
     cases e:p y with
     |false=>rfl
     |true=>exact absurd ⟨i,hi,y,hy,e⟩ h2
    have:=o8 (k:=0) hx hp ha;rw[apu]at this;exact .inr ⟨j,x,this,hx,hp,ha⟩
 ·have ha:∀(i:Nat) (x:Bv),bs[i]?=some x->p x=false:=fun i x hx=>by
   cases e:p x with
   |false=>rfl
   |true=>exact absurd ⟨i,x,hx,e⟩ h
  exact .inl ⟨jY ha,ha⟩
theorem FD (kb:w.cell? ⟨B,0,none⟩=some (.int .u32 pc))(x:Int)(sa:Option Addr)(n c:Nat):Calls prog 163 #[.agg #[.int .u32 x,.slice sa n c],.pointer (some ⟨B,0,none⟩)] w fun e w'=>e=.returned (.bool (decide (x=pc)))/\Gr w w':=by
 have q1:∀o,(w.alloc o).cell? ⟨B,0,none⟩=some (.int .u32 pc):=fun o=>(((Gr.refl w).alloc o).cell _ (by exact aug w _ kb)).trans kb
 go_enter func163,ntmps163;go_wp2;go_ret;refine⟨aM ?_,(Gr.refl _).alloc _⟩;first|rfl|simp
theorem LG (w:World)(pc:Int):Calls prog 137 #[.int .u32 pc] w fun e w'=>∃B,e=.returned (.func (.func 163) #[] #[.pointer (some ⟨B,0,none⟩)])/\w'.cell? ⟨B,0,none⟩=some (.int .u32 pc)/\Gr w w':=by go_enter func137,ntmps137;go_wp2;go_ret;exact⟨w.heap.size,rfl,cr (at5 w _),(Gr.refl _).alloc _⟩
theorem Ad (w:World)(f t:Int):Calls prog 118 #[.agg #[.int .u32 f,.int .u32 t]] w fun e w'=>∃B,e=.returned (.func (.func 145) #[] #[.pointer (some ⟨B,0,none⟩)])/\w'.heap[B]?=some (.cells #[.int .u32 f,.int .u32 t] 175 (0,0))/\Gr w w':=by go_enter func118,ntmps118;go_wp2;go_ret;exact⟨w.heap.size,rfl,at5 w _,(Gr.refl _).alloc _⟩
theorem iRg:(prog.info? 175).map (·.size)=some 2:=al
theorem Iq (w:World)(a b:Obj):((w.alloc a).alloc b).heap[w.heap.size+1]?=some b:=by have:=at5 (w.alloc a) b;simpa using this
theorem wH (w:World){x:Int}(hx:0<=x/\x<4294967296)(sa:Option Addr)(hn:n*40<=140737488351232)(c:Nat):Calls prog 87 #[.agg #[.int .u32 x,.slice sa n c]] w fun e w'=>e=.returned (.agg #[.int .u32 x,.int .u32 (min (x+4*(n:Int)) 4294967295)])/\Gr w w':=by
 obtain⟨hx0,hx1⟩:=hx;have HX0:=kH hx0;have kL:=kH hx1;have hw1:IntKind.u64.wrap x=x:=by simp[IntKind.wrap,IntKind.signed,IntKind.bits];omega
 have hw2:IntKind.u64.wrap (n:Int)=(n:Int):=by simp[IntKind.wrap,IntKind.signed,IntKind.bits];omega
 have hw3:IntKind.u64.wrap (4*(n:Int))=4*(n:Int):=by simp[IntKind.wrap,IntKind.signed,IntKind.bits];omega
 have hw4:IntKind.u64.wrap (x+4*(n:Int))=x+4*(n:Int):=by simp[IntKind.wrap,IntKind.signed,IntKind.bits];omega
 by_cases hm:x+4*(n:Int)<=4294967295
 ·have hw5:IntKind.u32.wrap (x+4*(n:Int))=x+4*(n:Int):=by simp[IntKind.wrap,IntKind.signed,IntKind.bits];omega
  go_enter func87,ntmps87;go_wp2;rw[show min (x+4*(n:Int)) 4294967295=x+4*(n:Int)by rw[Int.min_def];split<;>omega];exact auc (v:=.agg #[.int .u32 x,.int .u32 (x+4*(n:Int))]) (auD results87 _ _ _ _ _ (0,0) _ rfl (Iq w _ _) underlying175 rfl iRg) rfl ⟨rfl,br.alloc _⟩
 ·go_enter func87,ntmps87;go_wp2;rw[show min (x+4*(n:Int)) 4294967295=4294967295 by rw[Int.min_def];split<;>omega];exact auc (v:=.agg #[.int .u32 x,.int .u32 (4294967295)]) (auD results87 _ _ _ _ _ (0,0) _ rfl (Iq w _ _) underlying175 rfl iRg) rfl ⟨rfl,br.alloc _⟩
theorem o9 (k0:w.cell? ⟨B,0,none⟩=some (.int .u32 f))(k1:w.cell? ⟨B,1,none⟩=some (.int .u32 t))(ht:t<4294967296){b:Bv}(ok:b.Ok)(sa:Option Addr)(sc:Nat):Calls prog 145 #[.agg #[.int .u32 b.pc,.slice sa b.is.length sc],.pointer (some ⟨B,0,none⟩)] w fun e w'=>e=.returned (.bool (hasB b f t))/\Gr w w':=by
 have hB:=aug w _ k0;have BY:Hid (∀W:World,_):=fun W=>wH W ok.pc sa ok.sz sc
 have HH:Hid (hasB b f t=decide (max b.pc f<min (min (b.pc+4*(b.is.length:Int)) 4294967295) t)):=by
  unfold Hid hasB;rw[decide_eq_decide];simp only[Int.max_def,Int.min_def]
  (repeat' split)<;>omega
 have Q0:Hid (∀W:World,Gr w W->W.cell? ⟨B,0,none⟩=some (.int .u32 f)/\W.cell? ⟨B,1,none⟩=some (.int .u32 t)):=fun W G=>⟨(G.cell _ (by exact hB)).trans k0,(G.cell _ (by exact hB)).trans k1⟩
 generalize min (b.pc+4*(b.is.length:Int)) 4294967295=y at *
 generalize hasB b f t=hb at *
 generalize b.pc=x at *
 generalize b.is.length=n at *
 go_enter func145,ntmps145;go_wp2_with fail;refine(BY _).mono ?_;rintro e w1 ⟨rfl,G1⟩;have aU:=kH (br.trans G1);have q0:∀o,(w1.alloc o).cell? ⟨B,0,none⟩=some (.int .u32 f):=fun o=>(Q0 _ (aU.alloc o)).1
 have q1:∀o,(w1.alloc o).cell? ⟨B,1,none⟩=some (.int .u32 t):=fun o=>(Q0 _ (aU.alloc o)).2
 go_wp2
 all_goals
  go_ret;refine⟨aM ?_,aU.alloc _⟩;rw[HH.out,decide_eq_decide,Int.max_def,Int.min_def];all_goals ((repeat' split)<;>omega)
theorem LH (cap:Nat){bs:List Bv}(R:Bq w ao n bs)(hs:n<=140737488351232)(B:Nat)(p:Bv->Bool)(WN:∀(W:World) (b:Bv) (sa:Option Addr) (sc:Nat),Gr w W->b∈bs->Calls prog 163 #[.agg #[.int .u32 b.pc,.slice sa b.is.length sc],.pointer (some ⟨B,0,none⟩)] W fun e w'=>e=.returned (.bool (p b))/\Gr W w'):Calls prog 136 #[.slice ao n cap,.func (.func 163) #[] #[.pointer (some ⟨B,0,none⟩)]] w fun e w'=>e=.returned (.int .i64 (jf p bs 0))/\Gr w w':=by
 have Cl:=kH WN;have HR:=kH R;have HN:=kH R.len;clear R WN;go_enter func136,ntmps136;go_wp2_with fail;go_loopw [8] (fun i wr=>∃j:Nat,j<=n/\i=.int .i64 j/\(∀(i:Nat) (y:Bv),i<j->bs[i]?=some y->p y=false)/\Gr w wr) (fun i _=>n-(intOf i).toNat)
 case atStart=>exact⟨0,apF _,rfl,fun i y h=>absurd h ab,Gr.refl _⟩
 case round=>
  obtain⟨j,hj,rfl,hno,G⟩:=hrel;have nY:=kH hno;have HG:Hid (Gr w wr):=G;clear hno G;by_cases hlt:j<n
  ·obtain⟨b,hb⟩:∃b,bs[j]?=some b:=⟨_,api (by rw[HN.out];exact hlt)⟩;obtain⟨g1,o1,rfl,l1,hc⟩:=(HR.of HG).spot ab;obtain⟨c0,sa,sc,c1⟩:=hc j b hb;have HY:Hid (p b=true->jf p bs 0=(j:Int)):=fun h=>by have:=o8 (k:=0) hb h nY;rwa[apu]at this
   have HZ:Hid (p b=false->∀(i:Nat) (y:Bv),i<j+1->bs[i]?=some y->p y=false):=fun h i y hi hy=>by
    by_cases e:i<j
    ·exact nY i y e hy
    ·have e2:i=j:=ab;subst e2;rw[hb]at hy;injection hy with hy;rw[<-hy];exact h
   have wJ:Hid (∀W:World,Gr w W->Calls prog 163 #[.agg #[.int .u32 b.pc,.slice sa b.is.length sc],.pointer (some ⟨B,0,none⟩)] W fun e w'=>e=.returned (.bool (p b))/\Gr W w'):=fun W G=>Cl W b sa sc G (aps hb)
   generalize p b=m at *
   clear hb Cl nY HR HN hc;generalize b.pc=x at *
   generalize b.is.length=q at *
   cases m with
   |true=>
    have KN:Hid (jf p bs 0=(j:Int)):=HY rfl;clear HY HZ;go_wp2_with fail;refine(wJ _ HG).mono ?_;rintro e w1 ⟨rfl,G1⟩;have aU:=kH (HG.trans G1);go_wp2_with fail;go_ret;exact⟨by rw[KN.out];rfl,aU⟩
   |false=>
    have HZ2:=kH (HZ rfl);clear HY HZ;go_wp2_with fail;refine(wJ _ HG).mono ?_;rintro e w1 ⟨rfl,G1⟩;have aU:=kH (HG.trans G1);go_wp2_with fail;go_roundw
    case rel=>exact⟨j+1,ab,by go_num,HZ2,aU⟩
    case measure=>simp[intOf];omega
  ·have ej:j=n:=ab;have HE:Hid (jf p bs 0 = -1):=jY fun i x hx=>nY i x (by rw[ej,<-HN.out];exact(apj.1 hx).1) hx
   go_wp2_with fail;go_ret;exact⟨by rw[HE.out];rfl,HG⟩
theorem Ae (cap:Nat){bs:List Bv}(R:Bq w ao n bs)(hs:n<=140737488351232)(B:Nat)(p:Bv->Bool)(WN:∀(W:World) (b:Bv) (sa:Option Addr) (sc:Nat),Gr w W->b∈bs->Calls prog 145 #[.agg #[.int .u32 b.pc,.slice sa b.is.length sc],.pointer (some ⟨B,0,none⟩)] W fun e w'=>e=.returned (.bool (p b))/\Gr W w'):Calls prog 136 #[.slice ao n cap,.func (.func 145) #[] #[.pointer (some ⟨B,0,none⟩)]] w fun e w'=>e=.returned (.int .i64 (jf p bs 0))/\Gr w w':=by
 have Cl:Hid (∀(W:World) (b:Bv) (sa:Option Addr) (sc:Nat),Gr w W->b∈bs->Calls prog 145 #[.agg #[.int .u32 b.pc,.slice sa b.is.length sc],.pointer (some ⟨B,0,none⟩)] W fun e w'=>e=.returned (.bool (p b))/\Gr W w'):=WN;have HR:Hid (Bq w ao n bs):=R;have HN:Hid (bs.length=n):=R.len;clear R WN;go_enter func136,ntmps136;go_wp2_with fail;go_loopw [8] (fun i wr=>∃j:Nat,j<=n/\i=.int .i64 j/\(∀(i:Nat) (y:Bv),i<j->bs[i]?=some y->p y=false)/\Gr w wr) (fun i _=>n-(intOf i).toNat)
 case atStart=>exact⟨0,apF _,rfl,fun i y h=>absurd h ab,Gr.refl _⟩
 case round=>
  obtain⟨j,hj,rfl,hno,G⟩:=hrel;have nY:Hid (∀(i:Nat) (y:Bv),i<j->bs[i]?=some y->p y=false):=hno;have HG:Hid (Gr w wr):=G;by_cases hlt:j<n
  ·obtain⟨b,hb⟩:∃b,bs[j]?=some b:=⟨_,api (by rw[HN.out];exact hlt)⟩;obtain⟨g1,o1,rfl,l1,hc⟩:=(HR.of HG).spot ab;obtain⟨c0,sa,sc,c1⟩:=hc j b hb;have HY:Hid (p b=true->jf p bs 0=(j:Int)):=fun h=>by have:=o8 (k:=0) hb h nY;rwa[apu]at this
   have HZ:Hid (p b=false->∀(i:Nat) (y:Bv),i<j+1->bs[i]?=some y->p y=false):=fun h i y hi hy=>by
    by_cases e:i<j
    ·exact nY i y e hy
    ·have e2:i=j:=ab;subst e2;rw[hb]at hy;injection hy with hy;rw[<-hy];exact h
   have wJ:Hid (∀W:World,Gr w W->Calls prog 145 #[.agg #[.int .u32 b.pc,.slice sa b.is.length sc],.pointer (some ⟨B,0,none⟩)] W fun e w'=>e=.returned (.bool (p b))/\Gr W w'):=fun W G=>Cl W b sa sc G (aps hb)
   generalize p b=m at *
   clear hb Cl nY HR HN hc;generalize b.pc=x at *
   generalize b.is.length=q at *
   cases m with
   |true=>
    have KN:Hid (jf p bs 0=(j:Int)):=HY rfl;clear HY HZ;go_wp2_with fail;refine(wJ _ HG).mono ?_;rintro e w1 ⟨rfl,G1⟩;have aU:Hid (Gr w w1):=HG.trans G1;clear wJ G1 c0 c1;go_wp2_with fail;go_ret;exact⟨by rw[KN.out];rfl,aU⟩
   |false=>
    have HZ2:=kH (HZ rfl);go_wp2_with fail;refine(wJ _ HG).mono ?_;rintro e w1 ⟨rfl,G1⟩;have aU:=kH (HG.trans G1);go_wp2_with fail;go_roundw
    case rel=>exact⟨j+1,ab,by go_num,HZ2,aU⟩
    case measure=>simp[intOf];omega
  ·have ej:j=n:=ab;have HE:Hid (jf p bs 0 = -1):=jY fun i x hx=>nY i x (by rw[ej,<-HN.out];exact(apj.1 hx).1) hx
   go_wp2_with fail;go_ret;exact⟨by rw[HE.out];rfl,HG⟩
end Kc
end Go.Proofs.YtiadhbmnfjfioaaGreatDoor
