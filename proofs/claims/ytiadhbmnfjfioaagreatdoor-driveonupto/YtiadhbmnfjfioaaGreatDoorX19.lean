/- ours -/
import Derived.Test.YtiadhbmnfjfioaaGreatDoorX15
set_option linter.unusedVariables false
set_option linter.unusedSimpArgs false
set_option maxHeartbeats 8000000
set_option maxRecDepth 100000
set_option linter.unusedSectionVars false
namespace Go.Proofs.YtiadhbmnfjfioaaGreatDoor
open Go.Proofs.Tryz hiding d0 d1
open Go.ChangeShapes Go.WideShapes Go.ChangeAt Go.RowKit
namespace Ts
variable [Inhabited Go.Proofs.YtiadhbmnfjfioaaGreatDoor.Hc.bN]
open Mm Hc Mi Bk
open Hh hiding Rn

variable {w :World} {n a b :Int}
theorem Sr.at_ {g:Nat}(hg:g=w.heap.size)(cs:Array Value)(t n c:Nat)(h:cs.size=n*5):Sr (w.alloc (.cells cs t)) (.slice (some ⟨g,0,none⟩) n c) n 5 cs.toList:=by subst hg;exact Sr.new w cs t n c h
theorem Sr.drew {vx:Value}{m sz:Nat}{news:List Value}(h:Sr w vx m sz news):Sr w.drew vx m sz news:=h.gr ((Gr.refl _).drewN 1)
theorem agR:(prog.info? 235).map (·.size)=some 5:=by kernel_rfl
theorem rM (n a b :Int) (w :World) :Calls prog 167 #[.int .i64 n, .int .i64 a, .int .i64 b] w fun e w' => e = .returned (.bool (decide (a <= n /\ n <= b))) /\ w' =w :=by
  go_enter func167, ntmps167;go_wp2
  all_goals
    go_ret;refine⟨Dw.aM ?_, rfl⟩
    first
      | (rename_i h; have h2 : ¬ a ≤ n := by omega
         simp[h2]; done)
      |(rename_i h; simp[h]; done)
theorem eG (h:a<=n/\n<=b)(w:World):Calls prog 167 #[.int .i64 n,.int .i64 a,.int .i64 b] w fun e w'=>e=.returned (.bool true)/\w'=w:=by have:=rM n a b w;rwa[auq h]at this
theorem aA (h:¬(a<=n/\n<=b))(w:World):Calls prog 167 #[.int .i64 n,.int .i64 a,.int .i64 b] w fun e w'=>e=.returned (.bool false)/\w'=w:=by have:=rM n a b w;rwa[auh h]at this
theorem dm (v:Value)(w:World):Calls prog 164 #[v] w fun e w'=>e=.returned v/\w'=w:=by go_enter func164,ntmps164;go_wp2;go_ret;exact⟨rfl,rfl⟩
theorem Gf (r x:Int)(w:World):Calls prog 165 #[.int .i64 r,.int .u32 x] w fun e w'=>e=.returned (.agg #[.int .i64 2,.int .i64 r,.int .i64 0,.int .i64 0,.int .u32 x])/\w'=w.alloc (.cells #[.int .i64 2,.int .i64 r,.int .i64 0,.int .i64 0,.int .u32 x] 235):=by go_enter func165,ntmps165;go_wp2;exact auc (v:=.agg #[.int .i64 2,.int .i64 r,.int .i64 0,.int .i64 0,.int .u32 x]) (auD results165 _ _ _ _ _ (0,0) _ rfl (at5 w _) underlying235 rfl agR) rfl ⟨rfl,rfl⟩
theorem l9 (r x:Int)(w:World):Calls prog 165 #[.int .i64 r,.int .u32 x] w fun e w'=>e=.returned (.agg #[.int .i64 2,.int .i64 r,.int .i64 0,.int .i64 0,.int .u32 x])/\Gr w w':=(Gf r x w).mono fun e w' ⟨h1,h2⟩=>⟨h1,by rw[h2];exact(Gr.refl _).alloc _⟩
end Ts
namespace Ts
variable [Inhabited Go.Proofs.YtiadhbmnfjfioaaGreatDoor.Hc.bN]
open Mm Hc Mi Bk
open Hh hiding Rn
theorem NK (op rd r1 r2 im a:Int)(w:World):Calls prog 166 #[.agg #[.int .i64 op,.int .i64 rd,.int .i64 r1,.int .i64 r2,.int .i32 im],.int .u32 a] w fun e w'=>∃v,e=.returned v/\Sr w' v 3 5 [.int .i64 528,.int .i64 32,.int .i64 r1,.int .i64 0,.int .u32 (Wd.lo im),.int .i64 2,.int .i64 rd,.int .i64 0,.int .i64 0,.int .u32 (Wd.lo (a+4)),.int .i64 4,.int .i64 0,.int .i64 32,.int .i64 0,.int .u32 0]/\Gr w w':=by
 go_enter func166,ntmps166;go_wp2_with fail
 go_region_with (first
  |(go_at_call 165;refine(Gf _ _ _).mono ?_;rintro e w1 ⟨rfl,rfl⟩)
  |(go_at_call 164;refine(dm _ _).mono ?_;rintro e w1 ⟨rfl,rfl⟩))
 all_goals
  go_wp2_with fail;go_ret;refine⟨_,rfl,?_,?_⟩
  ·repeat (refine Sr.drew ?_)
   exact Sr.at_ (by simp) #[.int .i64 528,.int .i64 32,.int .i64 r1,.int .i64 0,.int .u32 (IntKind.u32.wrap im),.int .i64 2,.int .i64 rd,.int .i64 0,.int .i64 0,.int .u32 (IntKind.u32.wrap (a+4)),.int .i64 4,.int .i64 0,.int .i64 32,.int .i64 0,.int .u32 0] 235 3 3 rfl
  ·repeat (first|exact Gr.refl _|refine Gr.drewN ?_ _|refine Gr.drew ?_|refine Gr.alloc ?_ _)
end Ts
namespace Ts
variable [Inhabited Go.Proofs.YtiadhbmnfjfioaaGreatDoor.Hc.bN]
open Mm Hc Mi Bk
open Hh hiding Rn

def kR:List Int:=[0,0,0,0,0,0,0,0,0,0,0,0,0,0,0,0,0,0,0,528,531,532,533,536,537,530,534,535]
def Tq (w:World):Prop:=∀k n,kR[k]?=some n->w.cell? ⟨6,k,none⟩=some (.int .i64 n)
theorem Tq.of {w w':World}(h:Tq w)(g:Gr w w'):Tq w':=fun k n e=>(g.cell _ (by exact Dw.lt_of_cell (h k n e))).trans (h k n e)
def iD (op rd r1 r2 im a:Int) (n:Nat) (cs:List Value):Prop:=∀w:World,Tq w->Calls prog 140 #[.agg #[.int .i64 op,.int .i64 rd,.int .i64 r1,.int .i64 r2,.int .i32 im],.int .u32 a] w fun e w'=>∃v,e=.returned v/\Sr w' v n 5 cs/\Gr w w'
theorem Ec (a im:Int):Wd.lo (a+Wd.lo im)=(a+im)%4294967296:=by unfold Wd.lo;omega
section
variable {op rd r1 r2 im a :Int}
theorem Zi:iD 1 rd r1 r2 im a 1 [.int .i64 2,.int .i64 rd,.int .i64 0,.int .i64 0,.int .u32 (Wd.lo im)]:=fun w T=>by
 go_enter func140,ntmps140;go_wp2_with fail;refine(l9 _ _ _).mono ?_;rintro e w8 ⟨rfl,G1⟩;go_wp2_with fail;refine(dm _ _).mono ?_;rintro e w9 ⟨rfl,rfl⟩;go_wp2_with fail;go_ret;refine⟨_,rfl,?_,?_⟩
 ·exact Sr.at_ (by simp) _ _ _ _ rfl
 ·exact Gr.alloc (((Gr.refl _).alloc _).trans G1) _
theorem Zj:iD 2 rd r1 r2 im a 1 [.int .i64 2,.int .i64 rd,.int .i64 0,.int .i64 0,.int .u32 (Wd.lo (a+Wd.lo im))]:=fun w T=>by
 go_enter func140,ntmps140;go_wp2_with fail;refine(l9 _ _ _).mono ?_;rintro e w8 ⟨rfl,G1⟩;go_wp2_with fail;refine(dm _ _).mono ?_;rintro e w9 ⟨rfl,rfl⟩;go_wp2_with fail;go_ret;refine⟨_,rfl,?_,?_⟩
 ·rw[Ec];exact Sr.at_ (by simp) _ _ _ _ rfl
 ·exact Gr.alloc (((Gr.refl _).alloc _).trans G1) _
theorem Zk:iD 3 rd r1 r2 im a 2 [.int .i64 2,.int .i64 rd,.int .i64 0,.int .i64 0,.int .u32 (Wd.lo (a+4)),.int .i64 3,.int .i64 0,.int .i64 0,.int .i64 0,.int .u32 (Wd.lo (a+Wd.lo im))]:=fun w T=>by
 go_enter func140,ntmps140;go_wp2_with fail;refine(l9 _ _ _).mono ?_;rintro e w8 ⟨rfl,G1⟩;go_wp2_with fail;refine(dm _ _).mono ?_;rintro e w9 ⟨rfl,rfl⟩;go_wp2_with fail;go_ret;refine⟨_,rfl,?_,?_⟩
 ·rw[Ec];exact Sr.at_ (by simp) _ _ _ _ rfl
 ·exact Gr.alloc (((Gr.refl _).alloc _).trans G1) _
theorem Zl:iD 4 rd r1 r2 im a 3 [.int .i64 528,.int .i64 32,.int .i64 r1,.int .i64 0,.int .u32 (Wd.lo im),.int .i64 2,.int .i64 rd,.int .i64 0,.int .i64 0,.int .u32 (Wd.lo (a+4)),.int .i64 4,.int .i64 0,.int .i64 32,.int .i64 0,.int .u32 0]:=fun w T=>by go_enter func140,ntmps140;go_wp2_with fail;refine(NK _ _ _ _ _ _ _).mono ?_;rintro e w8 ⟨v,rfl,S1,G1⟩;go_wp2_with fail;go_ret;exact⟨_,rfl,S1,((Gr.refl _).alloc _).trans G1⟩
theorem Zm (ho:5<=op/\op<=10):iD op rd r1 r2 im a 1 [.int .i64 (100+op),.int .i64 0,.int .i64 r1,.int .i64 r2,.int .u32 (Wd.lo (a+Wd.lo im))]:=fun w T=>by
 have b1:(op ==1)=false:=by simp;omega
 have b2:(op ==2)=false:=by simp;omega
 have b3:(op ==3)=false:=by simp;omega
 have b4:(op ==4)=false:=by simp;omega
 have b19:(op ==19)=false:=by simp;omega
 go_enter func140,ntmps140;go_wp2_with fail;refine(eG (by omega) _).mono ?_;rintro e w0 ⟨rfl,rfl⟩;go_wp2_with fail;refine(dm _ _).mono ?_;rintro e w9 ⟨rfl,rfl⟩;go_wp2_with fail;go_ret;refine⟨_,rfl,?_,?_⟩
 ·rw[Ec];exact Sr.at_ (by simp) _ _ _ _ rfl
 ·exact Gr.alloc ((Gr.refl _).alloc _) _
theorem TM (ho:11<=op/\op<=15):iD op rd r1 r2 im a 1 [.int .i64 (200+op),.int .i64 rd,.int .i64 r1,.int .i64 0,.int .u32 (Wd.lo im)]:=fun w T=>by
 have b1:(op ==1)=false:=by simp;omega
 have b2:(op ==2)=false:=by simp;omega
 have b3:(op ==3)=false:=by simp;omega
 have b4:(op ==4)=false:=by simp;omega
 have b19:(op ==19)=false:=by simp;omega
 go_enter func140,ntmps140;go_wp2_with fail;refine(aA (by omega) _).mono ?_;rintro e w0 ⟨rfl,rfl⟩;go_wp2_with fail;refine(eG (by omega) _).mono ?_;rintro e w1 ⟨rfl,rfl⟩;go_wp2_with fail;refine(dm _ _).mono ?_;rintro e w9 ⟨rfl,rfl⟩;go_wp2_with fail;go_ret;refine⟨_,rfl,?_,?_⟩
 ·exact Sr.at_ (by simp) _ _ _ _ rfl
 ·exact Gr.alloc ((Gr.refl _).alloc _) _
theorem TN (ho:16<=op/\op<=18):iD op rd r1 r2 im a 1 [.int .i64 (300+op),.int .i64 0,.int .i64 r1,.int .i64 r2,.int .u32 (Wd.lo im)]:=fun w T=>by
 have b1:(op ==1)=false:=by simp;omega
 have b2:(op ==2)=false:=by simp;omega
 have b3:(op ==3)=false:=by simp;omega
 have b4:(op ==4)=false:=by simp;omega
 have b19:(op ==19)=false:=by simp;omega
 go_enter func140,ntmps140;go_wp2_with fail;refine(aA (by omega) _).mono ?_;rintro e w0 ⟨rfl,rfl⟩;go_wp2_with fail;refine(aA (by omega) _).mono ?_;rintro e w1 ⟨rfl,rfl⟩;go_wp2_with fail;refine(eG (by omega) _).mono ?_;rintro e w2 ⟨rfl,rfl⟩;go_wp2_with fail;refine(dm _ _).mono ?_;rintro e w9 ⟨rfl,rfl⟩;go_wp2_with fail;go_ret;refine⟨_,rfl,?_,?_⟩
 ·exact Sr.at_ (by simp) _ _ _ _ rfl
 ·exact Gr.alloc ((Gr.refl _).alloc _) _
theorem TP (ho:28<=op/\op<=45):iD op rd r1 r2 im a 1 [.int .i64 (400+op),.int .i64 rd,.int .i64 r1,.int .i64 r2,.int .u32 0]:=fun w T=>by
 have b1:(op ==1)=false:=by simp;omega
 have b2:(op ==2)=false:=by simp;omega
 have b3:(op ==3)=false:=by simp;omega
 have b4:(op ==4)=false:=by simp;omega
 have b19:(op ==19)=false:=by simp;omega
 go_enter func140,ntmps140;go_wp2_with fail;refine(aA (by omega) _).mono ?_;rintro e w0 ⟨rfl,rfl⟩;go_wp2_with fail;refine(aA (by omega) _).mono ?_;rintro e w1 ⟨rfl,rfl⟩;go_wp2_with fail;refine(aA (by omega) _).mono ?_;rintro e w2 ⟨rfl,rfl⟩;go_wp2_with fail;refine(aA (by omega) _).mono ?_;rintro e w3 ⟨rfl,rfl⟩;go_wp2_with fail;refine(eG (by omega) _).mono ?_;rintro e w4 ⟨rfl,rfl⟩;go_wp2_with fail;refine(dm _ _).mono ?_;rintro e w9 ⟨rfl,rfl⟩;go_wp2_with fail;go_ret;refine⟨_,rfl,?_,?_⟩
 ·exact Sr.at_ (by simp) _ _ _ _ rfl
 ·exact Gr.alloc ((Gr.refl _).alloc _) _
theorem TQ (ho:46<=op/\op<=56):iD op rd r1 r2 im a 1 [.int .i64 (600+op),.int .i64 rd,.int .i64 r1,.int .i64 r2,.int .u32 0]:=fun w T=>by
 have b1:(op ==1)=false:=by simp;omega
 have b2:(op ==2)=false:=by simp;omega
 have b3:(op ==3)=false:=by simp;omega
 have b4:(op ==4)=false:=by simp;omega
 have b19:(op ==19)=false:=by simp;omega
 go_enter func140,ntmps140;go_wp2_with fail;refine(aA (by omega) _).mono ?_;rintro e w0 ⟨rfl,rfl⟩;go_wp2_with fail;refine(aA (by omega) _).mono ?_;rintro e w1 ⟨rfl,rfl⟩;go_wp2_with fail;refine(aA (by omega) _).mono ?_;rintro e w2 ⟨rfl,rfl⟩;go_wp2_with fail;refine(aA (by omega) _).mono ?_;rintro e w3 ⟨rfl,rfl⟩;go_wp2_with fail;refine(aA (by omega) _).mono ?_;rintro e w4 ⟨rfl,rfl⟩;go_wp2_with fail;refine(eG (by omega) _).mono ?_;rintro e w5 ⟨rfl,rfl⟩;go_wp2_with fail;refine(dm _ _).mono ?_;rintro e w9 ⟨rfl,rfl⟩;go_wp2_with fail;go_ret;refine⟨_,rfl,?_,?_⟩
 ·exact Sr.at_ (by simp) _ _ _ _ rfl
 ·exact Gr.alloc ((Gr.refl _).alloc _) _
theorem NL:iD 19 rd 0 r2 im a 1 [.int .i64 2,.int .i64 rd,.int .i64 0,.int .i64 0,.int .u32 (Wd.lo im)]:=fun w T=>by
 go_enter func140,ntmps140;go_wp2_with fail;refine(aA (by omega) _).mono ?_;rintro e w0 ⟨rfl,rfl⟩;go_wp2_with fail;refine(aA (by omega) _).mono ?_;rintro e w1 ⟨rfl,rfl⟩;go_wp2_with fail;refine(aA (by omega) _).mono ?_;rintro e w2 ⟨rfl,rfl⟩;go_wp2_with fail;refine(l9 _ _ _).mono ?_;rintro e w8 ⟨rfl,G1⟩;go_wp2_with fail;refine(dm _ _).mono ?_;rintro e w9 ⟨rfl,rfl⟩;go_wp2_with fail;go_ret;refine⟨_,rfl,?_,?_⟩
 ·exact Sr.at_ (by simp) _ _ _ _ rfl
 ·exact Gr.alloc (((Gr.refl _).alloc _).trans G1) _
theorem NM (hz:(r1 ==0)=false):iD 19 0 r1 r2 im a 1 [.int .i64 2,.int .i64 0,.int .i64 0,.int .i64 0,.int .u32 (Wd.lo im)]:=fun w T=>by
 go_enter func140,ntmps140;go_wp2_with fail;refine(aA (by omega) _).mono ?_;rintro e w0 ⟨rfl,rfl⟩;go_wp2_with fail;refine(aA (by omega) _).mono ?_;rintro e w1 ⟨rfl,rfl⟩;go_wp2_with fail;refine(aA (by omega) _).mono ?_;rintro e w2 ⟨rfl,rfl⟩;go_wp2_with fail;refine(l9 _ _ _).mono ?_;rintro e w8 ⟨rfl,G1⟩;go_wp2_with fail;refine(dm _ _).mono ?_;rintro e w9 ⟨rfl,rfl⟩;go_wp2_with fail;go_ret;refine⟨_,rfl,?_,?_⟩
 ·exact Sr.at_ (by simp) _ _ _ _ rfl
 ·exact Gr.alloc (((Gr.refl _).alloc _).trans G1) _
theorem NN (hz:(r1 ==0)=false)(hy:(rd ==0)=false):iD 19 rd r1 r2 im a 1 [.int .i64 528,.int .i64 rd,.int .i64 r1,.int .i64 0,.int .u32 (Wd.lo im)]:=fun w T=>by
 have HT:Hid (∀W:World,Gr w W->W.cell? ⟨6,19,none⟩=some (.int .i64 528)):=fun W G=>(T.of G) 19 _ rfl
 have hq:(w.alloc (.cells #[.int .i64 19,.int .i64 rd,.int .i64 r1,.int .i64 r2,.int .i32 im] 59)).cell? ⟨6,19,none⟩=some (.int .i64 528):=HT.out _ ((Gr.refl _).alloc _);go_enter func140,ntmps140;go_wp2_with fail;refine(aA (by omega) _).mono ?_;rintro e w0 ⟨rfl,rfl⟩;go_wp2_with fail;refine(aA (by omega) _).mono ?_;rintro e w1 ⟨rfl,rfl⟩;go_wp2_with fail;refine(aA (by omega) _).mono ?_;rintro e w2 ⟨rfl,rfl⟩;go_wp2_with fail;refine(eG (by omega) _).mono ?_;rintro e w3 ⟨rfl,rfl⟩;go_wp2_with fail;go_region_held3 (fun W=>W.cell? ⟨w.heap.size,0,none⟩=some (.int .i64 19)/\W.cell? ⟨w.heap.size,1,none⟩=some (.int .i64 rd)/\W.cell? ⟨w.heap.size,2,none⟩=some (.int .i64 r1)/\W.cell? ⟨6,19,none⟩=some (.int .i64 528)) (first|(go_keep;done)|(refine⟨?_,?_,?_,?_⟩<;>first|assumption|(simp;done))) ((go_at_call 164;refine(dm _ _).mono ?_;rintro e w9 ⟨rfl,rfl⟩));go_wp2_with fail;go_ret;refine⟨_,rfl,?_,?_⟩
 ·repeat (refine Sr.drew ?_)
  exact Sr.at_ (by simp) _ _ _ _ rfl
 ·repeat (first|exact Gr.refl _|refine Gr.drewN ?_ _|refine Gr.drew ?_|refine Gr.alloc ?_ _)
theorem mf {k:Nat}{v:Int}(h1:20<=k)(h2:k<=27)(hv:kR[k]?=some v):iD (k:Int) rd r1 r2 im a 1 [.int .i64 v,.int .i64 rd,.int .i64 r1,.int .i64 0,.int .u32 (Wd.lo im)]:=fun w T=>by
 have c0:(0:Int)<=(k:Int):=by omega
 have c1:(k:Int)<28:=by omega
 have b1:((k:Int) ==1)=false:=by simp;omega
 have b2:((k:Int) ==2)=false:=by simp;omega
 have b3:((k:Int) ==3)=false:=by simp;omega
 have b4:((k:Int) ==4)=false:=by simp;omega
 have b19:((k:Int) ==19)=false:=by simp;omega
 have HT:Hid (∀W:World,Gr w W->W.cell? ⟨6,k,none⟩=some (.int .i64 v)):=fun W G=>(T.of G) k _ hv
 have hq:(w.alloc (.cells #[.int .i64 (k:Int),.int .i64 rd,.int .i64 r1,.int .i64 r2,.int .i32 im] 59)).cell? ⟨6,k,none⟩=some (.int .i64 v):=HT.out _ ((Gr.refl _).alloc _);go_enter func140,ntmps140;go_wp2_with fail;refine(aA (by omega) _).mono ?_;rintro e w0 ⟨rfl,rfl⟩;go_wp2_with fail;refine(aA (by omega) _).mono ?_;rintro e w1 ⟨rfl,rfl⟩;go_wp2_with fail;refine(aA (by omega) _).mono ?_;rintro e w2 ⟨rfl,rfl⟩;go_wp2_with fail;refine(eG (by omega) _).mono ?_;rintro e w3 ⟨rfl,rfl⟩;go_wp2_with fail;go_region_held3 (fun W=>W.cell? ⟨w.heap.size,0,none⟩=some (.int .i64 (k:Int))/\W.cell? ⟨w.heap.size,1,none⟩=some (.int .i64 rd)/\W.cell? ⟨w.heap.size,2,none⟩=some (.int .i64 r1)/\W.cell? ⟨6,k,none⟩=some (.int .i64 v)) (first|(go_keep;done)|(refine⟨?_,?_,?_,?_⟩<;>first|assumption|(simp;done))) ((go_at_call 164;refine(dm _ _).mono ?_;rintro e w9 ⟨rfl,rfl⟩));go_wp2_with fail;go_ret;refine⟨_,rfl,?_,?_⟩
 ·repeat (refine Sr.drew ?_)
  exact Sr.at_ (by simp) _ _ _ _ rfl
 ·repeat (first|exact Gr.refl _|refine Gr.drewN ?_ _|refine Gr.drew ?_|refine Gr.alloc ?_ _)
theorem TR:iD 58 rd r1 r2 im a 1 [.int .i64 5,.int .i64 0,.int .i64 0,.int .i64 0,.int .u32 0]:=fun w T=>by
 go_enter func140,ntmps140;go_wp2_with fail;refine(aA (by omega) _).mono ?_;rintro e w0 ⟨rfl,rfl⟩;go_wp2_with fail;refine(aA (by omega) _).mono ?_;rintro e w1 ⟨rfl,rfl⟩;go_wp2_with fail;refine(aA (by omega) _).mono ?_;rintro e w2 ⟨rfl,rfl⟩;go_wp2_with fail;refine(aA (by omega) _).mono ?_;rintro e w3 ⟨rfl,rfl⟩;go_wp2_with fail;refine(aA (by omega) _).mono ?_;rintro e w4 ⟨rfl,rfl⟩;go_wp2_with fail;refine(aA (by omega) _).mono ?_;rintro e w5 ⟨rfl,rfl⟩;go_wp2_with fail;refine(dm _ _).mono ?_;rintro e w9 ⟨rfl,rfl⟩;go_wp2_with fail;go_ret;refine⟨_,rfl,?_,?_⟩
 ·exact Sr.at_ (by simp) _ _ _ _ rfl
 ·exact Gr.alloc ((Gr.refl _).alloc _) _
theorem TS:iD 59 rd r1 r2 im a 1 [.int .i64 6,.int .i64 0,.int .i64 0,.int .i64 0,.int .u32 0]:=fun w T=>by
 go_enter func140,ntmps140;go_wp2_with fail;refine(aA (by omega) _).mono ?_;rintro e w0 ⟨rfl,rfl⟩;go_wp2_with fail;refine(aA (by omega) _).mono ?_;rintro e w1 ⟨rfl,rfl⟩;go_wp2_with fail;refine(aA (by omega) _).mono ?_;rintro e w2 ⟨rfl,rfl⟩;go_wp2_with fail;refine(aA (by omega) _).mono ?_;rintro e w3 ⟨rfl,rfl⟩;go_wp2_with fail;refine(aA (by omega) _).mono ?_;rintro e w4 ⟨rfl,rfl⟩;go_wp2_with fail;refine(aA (by omega) _).mono ?_;rintro e w5 ⟨rfl,rfl⟩;go_wp2_with fail;refine(dm _ _).mono ?_;rintro e w9 ⟨rfl,rfl⟩;go_wp2_with fail;go_ret;refine⟨_,rfl,?_,?_⟩
 ·exact Sr.at_ (by simp) _ _ _ _ rfl
 ·exact Gr.alloc ((Gr.refl _).alloc _) _
theorem TU:iD 57 rd r1 r2 im a 0 []:=fun w T=>by go_enter func140,ntmps140;go_wp2_with fail;refine(aA (by omega) _).mono ?_;rintro e w0 ⟨rfl,rfl⟩;go_wp2_with fail;refine(aA (by omega) _).mono ?_;rintro e w1 ⟨rfl,rfl⟩;go_wp2_with fail;refine(aA (by omega) _).mono ?_;rintro e w2 ⟨rfl,rfl⟩;go_wp2_with fail;refine(aA (by omega) _).mono ?_;rintro e w3 ⟨rfl,rfl⟩;go_wp2_with fail;refine(aA (by omega) _).mono ?_;rintro e w4 ⟨rfl,rfl⟩;go_wp2_with fail;refine(aA (by omega) _).mono ?_;rintro e w5 ⟨rfl,rfl⟩;go_wp2_with fail;go_ret;exact⟨_,rfl,.inl ⟨rfl,rfl,rfl⟩,(Gr.refl _).alloc _⟩
end
theorem NP {a:Int}{i:Iv}(h:i.In):iD i.op i.rd i.r1 i.r2 i.im a (CG a i).length (r9 (CG a i)):=by
 obtain⟨op,rd,r1,r2,im⟩:=i;obtain⟨o1,o2,d0,d1,a0,a1,b0,b1⟩:=h;simp only at o1 o2 d0 d1 a0 a1 b0 b1;unfold CG;simp only;by_cases h0:op=1
 ·rw[at7 h0];subst h0;exact Zi
 rw[at6 h0];by_cases h1:op=2
 ·rw[at7 h1];subst h1;exact Zj
 rw[at6 h1];by_cases h2:op=3
 ·rw[at7 h2];subst h2;exact Zk
 rw[at6 h2];by_cases h3:op=4
 ·rw[at7 h3];subst h3;exact Zl
 rw[at6 h3];by_cases h4:5<=op/\op<=10
 ·rw[at7 h4];exact Zm h4
 rw[at6 h4];by_cases h5:11<=op/\op<=15
 ·rw[at7 h5];exact TM h5
 rw[at6 h5];by_cases h6:16<=op/\op<=18
 ·rw[at7 h6];exact TN h6
 rw[at6 h6];by_cases h7:op=19/\(r1=0\/rd=0)
 ·rw[at7 h7];obtain⟨rfl,hh⟩:=h7;by_cases hr:r1=0
  ·subst hr;exact NL
  ·have:rd=0:=by rcases hh with hh|hh;exact absurd hh hr;exact hh
   subst this;exact NM (by simpa using hr)
 rw[at6 h7];by_cases h8:19<=op/\op<=27
 ·rw[at7 h8];have hc:op=19\/op=20\/op=21\/op=22\/op=23\/op=24\/op=25\/op=26\/op=27:=by omega
  rcases hc with rfl|rfl|rfl|rfl|rfl|rfl|rfl|rfl|rfl
  ·have hz:¬(r1=0\/rd=0):=fun hq=>h7 ⟨rfl,hq⟩
   exact NN (by simp;exact fun q=>hz (.inl q)) (by simp;exact fun q=>hz (.inr q))
  ·exact mf (k:=20) (by decide) (by decide) rfl
  ·exact mf (k:=21) (by decide) (by decide) rfl
  ·exact mf (k:=22) (by decide) (by decide) rfl
  ·exact mf (k:=23) (by decide) (by decide) rfl
  ·exact mf (k:=24) (by decide) (by decide) rfl
  ·exact mf (k:=25) (by decide) (by decide) rfl
  ·exact mf (k:=26) (by decide) (by decide) rfl
  ·exact mf (k:=27) (by decide) (by decide) rfl
 rw[at6 h8];by_cases h9:28<=op/\op<=45
 ·rw[at7 h9];exact TP h9
 rw[at6 h9];by_cases h10:46<=op/\op<=56
 ·rw[at7 h10];exact TQ h10
 rw[at6 h10];by_cases h11:op=58
 ·rw[at7 h11];subst h11;exact TR
 rw[at6 h11];by_cases h12:op=59
 ·rw[at7 h12];subst h12;exact TS
 rw[at6 h12];obtain rfl:op=57:=by omega
 exact TU
end Ts
namespace Dw

def wI (f u:Int):Int:=if f=1 then u/4096%1048576*4096 else if f=2 then u/1048576%2*2147483648+u/4096%256*4096+u/2048%2*1048576+u/2%1024*2097152 else if f=3 then u%4096*1048576 else if f=4 then u%32*1048576 else if f=5 then u/4096%2*2147483648+u/2048%2*128+u/32%64*33554432+u/2%16*256 else if f=6 then u/32%128*33554432+u%32*128 else if f=8 then u%4*33554432 else 0
def dw (f:Int):Prop:=∀(n:Int) (w:World),nK w -> -2147483648<=n->n<2147483648->Calls prog 93 #[.int .i64 f,.int .i32 n] w fun e w'=>e=.returned (.int .u32 (wI f (n%4294967296)))/\Gr w w'
def pW (k j:Nat):Int×Int×Int:=(oC k (3*j+1),oC k (3*j+2),oC k (3*j))
theorem jP {k:Nat}(hk:k<10)(n:Int)(w:World)(T:nK w)(h0 : -2147483648<=n)(h1:n<2147483648):Calls prog 93 #[.int .i64 k,.int .i32 n] w fun e w'=>e=.returned (.int .u32 (kX (n%4294967296) (pW k) 4))/\Gr w w':=by
 have u0:0<=n%4294967296:=by omega
 have u1:n%4294967296<4294967296:=by omega
 have HX:Hid (∀j,j<4->∀w:World,_):=fun j h w=>WS (oC k) w j h
 have HR:=FR hk T;have hsz:(prog.info? 101).map (·.size)=some (twelve (oC k)).toList.length:=by kernel_rfl
 have hb:=MJ k hk;have HP:Hid (∀j,kX (n%4294967296) (pW k) (j+1)=bits .or .u32 (kX (n%4294967296) (pW k) j) ((n%4294967296)/2 ^ (oC k (3*j+1)).toNat%2 ^ (oC k (3*j+2)).toNat*2 ^ (oC k (3*j)).toNat%4294967296)):=fun j=>rfl
 go_enter func93,ntmps93;go_wp2_with (refine auA rfl 101 _ rfl 0 (k*17+4) rfl (twelve (oC k)).toList _ HR underlying101 rfl hsz ?_);go_loopw [5,12] (fun s i wr=>Gr w wr/\∃j:Nat,j<=4/\i=.int .i64 j/\s=.int .u32 (kX (n%4294967296) (pW k) j)) (fun _ i _=>4-(intOf i).toNat)
 case atStart=>exact⟨Gr.refl _,0,apF _,rfl,rfl⟩
 case round=>
  obtain⟨g,j,hj,rfl,rfl⟩:=hrel;by_cases hlt:j<4
  ·have x:=HX.out j hlt;obtain⟨b0,b1⟩:=hb (3*j);obtain⟨d0,d1⟩:=hb (3*j+1);obtain⟨e0,e1⟩:=hb (3*j+2);have HO:=kH (HP.out j);generalize kX (n%4294967296) (pW k) j=s at *
   generalize oC k (3*j)=qa at *
   generalize oC k (3*j+1)=qb at *
   generalize oC k (3*j+2)=qc at *
   obtain⟨y,hy⟩:∃y,(n%4294967296)/2^qb.toNat%2^qc.toNat=y:=⟨_,rfl⟩;rw[hy]at HO;have HY:=kH hy;go_wp2;refine auB (by kernel_rfl) (by kernel_rfl) ?_;iterate 7 go_big_quiet_step (fail)
   go_big_quiet_step (exact Calls.quiet_of (lM (n%4294967296) qb qc y _ u0 u1 d0 d1 e0 e1 HY.out));iterate 5 go_big_quiet_step (fail)
   refine auO ?_;intro _ h;obtain⟨nq,h2⟩:=h;subst h2;go_wp2;go_roundw
   case rel=>exact⟨(g.alloc _ _).drewN _,j+1,by omega,by go_num,by rw[HO.out]⟩
   case measure=>simp[intOf];omega
  ·have ej:j=4:=by omega
   subst ej;go_wp2;go_ret;exact⟨rfl,g⟩
theorem yK:dw 0:=by
 intro n w T h0 h1;refine(jP (k:=0) (by omega) n w T h0 h1).mono fun e w' ⟨he,hg⟩=>⟨he.trans (au ?_),hg⟩
 have u0:0<=n%4294967296:=by omega
 have u1:n%4294967296<4294967296:=by omega
 generalize n%4294967296=u at *
 have e0:kX u (pW 0) 0=0:=rfl;have e1:=aB e0 ⟨by omega,by omega⟩ rfl;have e2:=aB e1 ⟨by omega,by omega⟩ rfl;have e3:=aB e2 ⟨by omega,by omega⟩ rfl;have e4:=aB e3 ⟨by omega,by omega⟩ rfl;rw[e4];show _=0
 omega
theorem yL:dw 1:=by
 intro n w T h0 h1;refine(jP (k:=1) (by omega) n w T h0 h1).mono fun e w' ⟨he,hg⟩=>⟨he.trans (au ?_),hg⟩
 have u0:0<=n%4294967296:=by omega
 have u1:n%4294967296<4294967296:=by omega
 generalize n%4294967296=u at *
 have e0:kX u (pW 1) 0=0:=rfl;have e1:=bC e0 12 20 12 rfl ⟨by omega,by omega⟩ (by omega) (by decide) (by decide) (by decide);have e2:=aB e1 ⟨by omega,by omega⟩ rfl;have e3:=aB e2 ⟨by omega,by omega⟩ rfl;have e4:=aB e3 ⟨by omega,by omega⟩ rfl;rw[e4];show _=u/4096%1048576*4096
 omega
theorem yM:dw 2:=by
 intro n w T h0 h1;refine(jP (k:=2) (by omega) n w T h0 h1).mono fun e w' ⟨he,hg⟩=>⟨he.trans (au ?_),hg⟩
 have u0:0<=n%4294967296:=by omega
 have u1:n%4294967296<4294967296:=by omega
 generalize n%4294967296=u at *
 have e0:kX u (pW 2) 0=0:=rfl;have e1:=bC e0 20 1 31 rfl ⟨by omega,by omega⟩ (by omega) (by decide) (by decide) (by decide);have e2:=bC e1 12 8 12 rfl ⟨by omega,by omega⟩ (by omega) (by decide) (by decide) (by decide);have e3:=bC e2 11 1 20 rfl ⟨by omega,by omega⟩ (by omega) (by decide) (by decide) (by decide);have e4:=bC e3 1 10 21 rfl ⟨by omega,by omega⟩ (by have:=z_2 (u/2^20%2^1) (u/2^12%2^8) (u/2^11%2^1) (by omega) (by omega) (by omega) (by omega) (by omega) (by omega);refine auT ?_ this;congr 2;omega) (by decide) (by decide) (by decide);rw[e4];show _=u/1048576%2*2147483648+u/4096%256*4096+u/2048%2*1048576+u/2%1024*2097152
 omega
theorem yN:dw 3:=by
 intro n w T h0 h1;refine(jP (k:=3) (by omega) n w T h0 h1).mono fun e w' ⟨he,hg⟩=>⟨he.trans (au ?_),hg⟩
 have u0:0<=n%4294967296:=by omega
 have u1:n%4294967296<4294967296:=by omega
 generalize n%4294967296=u at *
 have e0:kX u (pW 3) 0=0:=rfl;have e1:=bC e0 0 12 20 rfl ⟨by omega,by omega⟩ (by omega) (by decide) (by decide) (by decide);have e2:=aB e1 ⟨by omega,by omega⟩ rfl;have e3:=aB e2 ⟨by omega,by omega⟩ rfl;have e4:=aB e3 ⟨by omega,by omega⟩ rfl;rw[e4];show _=u%4096*1048576
 omega
theorem yO:dw 4:=by
 intro n w T h0 h1;refine(jP (k:=4) (by omega) n w T h0 h1).mono fun e w' ⟨he,hg⟩=>⟨he.trans (au ?_),hg⟩
 have u0:0<=n%4294967296:=by omega
 have u1:n%4294967296<4294967296:=by omega
 generalize n%4294967296=u at *
 have e0:kX u (pW 4) 0=0:=rfl;have e1:=bC e0 0 5 20 rfl ⟨by omega,by omega⟩ (by omega) (by decide) (by decide) (by decide);have e2:=aB e1 ⟨by omega,by omega⟩ rfl;have e3:=aB e2 ⟨by omega,by omega⟩ rfl;have e4:=aB e3 ⟨by omega,by omega⟩ rfl;rw[e4];show _=u%32*1048576
 omega
theorem yP:dw 5:=by
 intro n w T h0 h1;refine(jP (k:=5) (by omega) n w T h0 h1).mono fun e w' ⟨he,hg⟩=>⟨he.trans (au ?_),hg⟩
 have u0:0<=n%4294967296:=by omega
 have u1:n%4294967296<4294967296:=by omega
 generalize n%4294967296=u at *
 have e0:kX u (pW 5) 0=0:=rfl;have e1:=bC e0 12 1 31 rfl ⟨by omega,by omega⟩ (by omega) (by decide) (by decide) (by decide);have e2:=bC e1 11 1 7 rfl ⟨by omega,by omega⟩ (by omega) (by decide) (by decide) (by decide);have e3:=bC e2 5 6 25 rfl ⟨by omega,by omega⟩ (by omega) (by decide) (by decide) (by decide);have e4:=bC e3 1 4 8 rfl ⟨by omega,by omega⟩ (by have:=z_5 (u/2^12%2^1) (u/2^11%2^1) (u/2^5%2^6) (by omega) (by omega) (by omega) (by omega) (by omega) (by omega);refine auT ?_ this;congr 2;omega) (by decide) (by decide) (by decide);rw[e4];show _=u/4096%2*2147483648+u/2048%2*128+u/32%64*33554432+u/2%16*256
 omega
theorem yQ:dw 6:=by
 intro n w T h0 h1;refine(jP (k:=6) (by omega) n w T h0 h1).mono fun e w' ⟨he,hg⟩=>⟨he.trans (au ?_),hg⟩
 have u0:0<=n%4294967296:=by omega
 have u1:n%4294967296<4294967296:=by omega
 generalize n%4294967296=u at *
 have e0:kX u (pW 6) 0=0:=rfl;have e1:=bC e0 5 7 25 rfl ⟨by omega,by omega⟩ (by omega) (by decide) (by decide) (by decide);have e2:=bC e1 0 5 7 rfl ⟨by omega,by omega⟩ (by omega) (by decide) (by decide) (by decide);have e3:=aB e2 ⟨by omega,by omega⟩ rfl;have e4:=aB e3 ⟨by omega,by omega⟩ rfl;rw[e4];show _=u/32%128*33554432+u%32*128
 omega
theorem yR:dw 7:=by
 intro n w T h0 h1;refine(jP (k:=7) (by omega) n w T h0 h1).mono fun e w' ⟨he,hg⟩=>⟨he.trans (au ?_),hg⟩
 have u0:0<=n%4294967296:=by omega
 have u1:n%4294967296<4294967296:=by omega
 generalize n%4294967296=u at *
 have e0:kX u (pW 7) 0=0:=rfl;have e1:=aB e0 ⟨by omega,by omega⟩ rfl;have e2:=aB e1 ⟨by omega,by omega⟩ rfl;have e3:=aB e2 ⟨by omega,by omega⟩ rfl;have e4:=aB e3 ⟨by omega,by omega⟩ rfl;rw[e4];show _=0
 omega
theorem yS:dw 8:=by
 intro n w T h0 h1;refine(jP (k:=8) (by omega) n w T h0 h1).mono fun e w' ⟨he,hg⟩=>⟨he.trans (au ?_),hg⟩
 have u0:0<=n%4294967296:=by omega
 have u1:n%4294967296<4294967296:=by omega
 generalize n%4294967296=u at *
 have e0:kX u (pW 8) 0=0:=rfl;have e1:=bC e0 0 2 25 rfl ⟨by omega,by omega⟩ (by omega) (by decide) (by decide) (by decide);have e2:=aB e1 ⟨by omega,by omega⟩ rfl;have e3:=aB e2 ⟨by omega,by omega⟩ rfl;have e4:=aB e3 ⟨by omega,by omega⟩ rfl;rw[e4];show _=u%4*33554432
 omega
theorem yT:dw 9:=by
 intro n w T h0 h1;refine(jP (k:=9) (by omega) n w T h0 h1).mono fun e w' ⟨he,hg⟩=>⟨he.trans (au ?_),hg⟩
 have u0:0<=n%4294967296:=by omega
 have u1:n%4294967296<4294967296:=by omega
 generalize n%4294967296=u at *
 have e0:kX u (pW 9) 0=0:=rfl;have e1:=aB e0 ⟨by omega,by omega⟩ rfl;have e2:=aB e1 ⟨by omega,by omega⟩ rfl;have e3:=aB e2 ⟨by omega,by omega⟩ rfl;have e4:=aB e3 ⟨by omega,by omega⟩ rfl;rw[e4];show _=0
 omega
theorem uG (f:Int)(h0:0<=f)(h1:f<=9):dw f:=by
 have h:f=0\/f=1\/f=2\/f=3\/f=4\/f=5\/f=6\/f=7\/f=8\/f=9:=by omega
 rcases h with rfl|rfl|rfl|rfl|rfl|rfl|rfl|rfl|rfl|rfl
 ·exact yK
 ·exact yL
 ·exact yM
 ·exact yN
 ·exact yO
 ·exact yP
 ·exact yQ
 ·exact yR
 ·exact yS
 ·exact yT
end Dw
namespace Dw

def Wv (op rd bL bT jw:Int):Int:=bits .or .u32 (bits .or .u32 (Dc.bK op) (bits .or .u32 (bits .or .u32 (rd%4294967296*128%4294967296) (bL%4294967296*32768%4294967296)) (bT%4294967296*1048576%4294967296))) (wI (Dc.aJ op) (jw%4294967296))
theorem nN (op rd bL bT jw:Int):0<=Wv op rd bL bT jw/\Wv op rd bL bT jw<4294967296:=by
 have h:(Lit.int .u32 (Wv op rd bL bT jw)).wf=true:=wf_bits _ _ _ _;have h':0<=Wv op rd bL bT jw/\Wv op rd bL bT jw<=4294967295:=by simpa[Lit.wf,IntKind.min,IntKind.max,IntKind.signed,IntKind.bits]using h
 omega
theorem jG (op rd bL bT jw:Int)(w:World)(T:nK w)(h0 : -2147483648<=jw)(h1:jw<2147483648):Calls prog 65 #[df op rd bL bT jw] w fun e w'=>e=.returned (.int .u32 (Wv op rd bL bT jw))/\Gr w w':=by unfold df;go_enter func65,ntmps65;go_wp2_with fail;refine(pI op _ (T.of ((Gr.refl _).alloc _ _))).mono ?_;rintro e w1 ⟨rfl,g⟩;have YY:=Dc.La op;have T1:=(T.of ((Gr.refl _).alloc _ _)).of g;obtain⟨f1,f2,f3⟩:=di g;have r0:=f1 0 _ rfl;have r1:=f1 1 _ rfl;have r2:=f1 2 _ rfl;have r3:=f1 3 _ rfl;have r4:=f1 4 _ rfl;have G1:=kH (((Gr.refl _).alloc _ _).trans g);have W1:=kH (uG (Dc.aJ op) YY.1 YY.2);go_wp2_with fail;refine(W1.out jw _ T1 h0 h1).mono ?_;rintro e w2 ⟨rfl,g2⟩;go_wp2_with fail;go_ret;exact⟨rfl,G1.out.trans g2⟩
def Same (op rd bL bT jw v:Int):Prop:=fZ v=true/\Dc.aO v=op/\Dc.iF (Dc.aJ (Dc.aO v)) v=rd/\Dc.bZ (Dc.aJ (Dc.aO v)) v=bL/\Dc.bV (Dc.aJ (Dc.aO v)) v=bT/\Dc.bS (Dc.aJ (Dc.aO v)) v=jw
theorem JA (op rd bL bT jw:Int)(w:World)(T:nK w)(h0 : -2147483648<=jw)(h1:jw<2147483648)(hn:¬Same op rd bL bT jw (Wv op rd bL bT jw)):Calls prog 31 #[df op rd bL bT jw] w fun e w'=>e=.returned (.tuple #[.int .u32 0,.int .i64 2])/\Gr w w':=by
 have hb:=nN op rd bL bT jw;have HW:=fun w T=>jG op rd bL bT jw w T h0 h1
 have HD:=fun w T=>jh (Wv op rd bL bT jw) w T hb.1 hb.2
 generalize Wv op rd bL bT jw=v at *
 unfold kP at HD;unfold Same at hn;generalize Dc.iF (Dc.aJ (Dc.aO v)) v=x1 at *
 generalize Dc.bZ (Dc.aJ (Dc.aO v)) v=x2 at *
 generalize Dc.bV (Dc.aJ (Dc.aO v)) v=x3 at *
 generalize Dc.bS (Dc.aJ (Dc.aO v)) v=x4 at *
 generalize Dc.aO v=x0 at *
 generalize fZ v=b at *
 have N:=kH hn;unfold df at *
 have HW':=kH HW;have HD':=kH HD;go_enter func31,ntmps31;go_wp2_with fail;refine(HW'.out _ (T.of ((Gr.refl _).alloc _ _))).mono ?_;rintro e w1 ⟨rfl,g⟩;have T1:=(T.of ((Gr.refl _).alloc _ _)).of g;have G1:=kH g;go_wp2_with fail;refine(HD'.out _ T1).mono ?_;rintro e w2 ⟨rfl,g2⟩;have g:=G1.out.trans g2;obtain⟨f1,f2,f3⟩:=di g;have r0:=f1 0 _ rfl;have r1:=f1 1 _ rfl;have r2:=f1 2 _ rfl;have r3:=f1 3 _ rfl;have r4:=f1 4 _ rfl;have G2:=kH (((Gr.refl _).alloc _ _).trans g);cases b
 ·go_wp2_with fail
  all_goals
   go_ret2;exact⟨rfl,G2.out.alloc _ _⟩
 ·go_wp2_with fail
  all_goals
   first
    |(go_ret2;exact⟨rfl,G2.out.alloc _ _⟩)
    |exact(N.out ⟨(by first|rfl|trivial|assumption),(by first|rfl|trivial|assumption),(by first|rfl|trivial|assumption),(by first|rfl|trivial|assumption),(by first|rfl|trivial|assumption),(by first|rfl|trivial|assumption)⟩).elim
theorem uH (op rd bL bT jw:Int)(w:World)(T:nK w)(h0 : -2147483648<=jw)(h1:jw<2147483648)(hy:Same op rd bL bT jw (Wv op rd bL bT jw)):Calls prog 31 #[df op rd bL bT jw] w fun e w'=>e=.returned (.tuple #[.int .u32 (Wv op rd bL bT jw),.int .i64 0])/\Gr w w':=by
 have hb:=nN op rd bL bT jw;have HW:=fun w T=>jG op rd bL bT jw w T h0 h1
 have HD:=fun w T=>jh (Wv op rd bL bT jw) w T hb.1 hb.2
 generalize Wv op rd bL bT jw=v at *
 unfold kP at HD;unfold Same at hy;generalize Dc.iF (Dc.aJ (Dc.aO v)) v=x1 at *
 generalize Dc.bZ (Dc.aJ (Dc.aO v)) v=x2 at *
 generalize Dc.bV (Dc.aJ (Dc.aO v)) v=x3 at *
 generalize Dc.bS (Dc.aJ (Dc.aO v)) v=x4 at *
 generalize Dc.aO v=x0 at *
 generalize fZ v=b at *
 obtain⟨hb1,e0,e1,e2,e3,e4⟩:=hy;subst hb1;rw[e0,e1,e2,e3,e4]at HD;unfold df at *
 have HW':=kH HW;have HD':=kH HD;go_enter func31,ntmps31;go_wp2_with fail;refine(HW'.out _ (T.of ((Gr.refl _).alloc _ _))).mono ?_;rintro e w1 ⟨rfl,g⟩;have T1:=(T.of ((Gr.refl _).alloc _ _)).of g;have G1:=kH g;go_wp2_with fail;refine(HD'.out _ T1).mono ?_;rintro e w2 ⟨rfl,g2⟩;have g:=G1.out.trans g2;obtain⟨f1,f2,f3⟩:=di g;have r0:=f1 0 _ rfl;have r1:=f1 1 _ rfl;have r2:=f1 2 _ rfl;have r3:=f1 3 _ rfl;have r4:=f1 4 _ rfl;have G2:=kH (((Gr.refl _).alloc _ _).trans g);go_wp2_with fail;go_ret2;exact⟨rfl,G2.out.alloc _ _⟩
end Dw
end Go.Proofs.YtiadhbmnfjfioaaGreatDoor
