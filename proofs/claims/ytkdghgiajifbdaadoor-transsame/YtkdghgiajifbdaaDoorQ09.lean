/-
  Rm5, Mz2, Hk: texts of ours that lie in one file.
-/
import Derived.Test.YtkdghgiajifbdaaDoorQ02
import Derived.Test.YtkdghgiajifbdaaDoorQ03
import Derived.Great.BuildSlice
set_option linter.unusedVariables false
set_option linter.unusedSimpArgs false
set_option maxHeartbeats 8000000
set_option maxRecDepth 100000
namespace Go.Proofs.YtkdghgiajifbdaaDoor.Mi
open Go.ChangeShapes Go.WideShapes Go.ChangeAt Go.RowKit Mm Hh Hc

variable {b : Bool} {α : Type} {i : Mv} {x : Int}
structure Cs (w:World) (ao:Option Addr) (n:Nat) (code:List Mv):Prop where
 len:code.length=n
 wn:∀i∈code,W i.n
 wo:∀i∈code, -9223372036854775808≤i.op∧i.op≤9223372036854775807
 spot:0<n→∃b o,ao=some ⟨b,o,none⟩∧b<w.heap.size∧∀j i,code[j]?=some i→w.cell? ⟨b,o+j*5,none⟩=some (.int .i64 i.op)∧w.cell? ⟨b,o+j*5+1,none⟩=some (.int .i64 i.d)∧w.cell? ⟨b,o+j*5+2,none⟩=some (.int .i64 i.a)∧w.cell? ⟨b,o+j*5+3,none⟩=some (.int .i64 i.b)∧w.cell? ⟨b,o+j*5+4,none⟩=some (.int .u32 i.n)
theorem Cs.of {w w':World}{ao:Option Addr}{n:Nat}{code:List Mv}(h:Cs w ao n code)(g:Gr w w'):Cs w' ao n code:=
 ⟨h.len,h.wn,h.wo,fun hn=>by
  obtain ⟨b,o,e,hb,hc⟩:=h.spot hn
  refine ⟨b,o,e,Nat.lt_of_lt_of_le hb g.size,fun j i hj=>?_⟩
  obtain ⟨h0,h1,h2,h3,h4⟩:=hc j i hj
  exact ⟨(g.cell _ (by exact hb)).trans h0,(g.cell _ (by exact hb)).trans h1,(g.cell _ (by exact hb)).trans h2,(g.cell _ (by exact hb)).trans h3,(g.cell _ (by exact hb)).trans h4⟩⟩
theorem retB {a:Bool}(h:a=b):Ending.returned (.bool a)=.returned (.bool b):=by rw [h]
theorem left100 (op:Int):∃s,op.tmod 100=s∧((0≤op∧s=op%100)∨(op<0∧s≤0∧op≤s ∧ -100<s)):=by
 refine ⟨_,rfl,?_⟩
 by_cases h:0≤op
 ·exact .inl ⟨h,Int.tmod_eq_emod_of_nonneg h⟩
 ·refine .inr ⟨by omega,?_⟩
  have e:op.tmod 100 = -((-op)%100):=by
   rw [show op = -(-op) by omega,Int.neg_tmod,Int.tmod_eq_emod_of_nonneg (by omega)]
   simp
  rw [e]
  omega
theorem named_1 (w:World):Calls Tryd.prog 37 #[.int .i64 1] w fun e w'=>e=.returned (.int .i64 (8))∧w'=w:=by
 go_enter Tryd.func37,Tryd.ntmps37
 go_wp2
 go_ret
 exact ⟨rfl,rfl⟩
theorem named_2 (w:World):Calls Tryd.prog 37 #[.int .i64 2] w fun e w'=>e=.returned (.int .i64 (9))∧w'=w:=by
 go_enter Tryd.func37,Tryd.ntmps37
 go_wp2
 go_ret
 exact ⟨rfl,rfl⟩
theorem named_3 (w:World):Calls Tryd.prog 37 #[.int .i64 3] w fun e w'=>e=.returned (.int .i64 (8))∧w'=w:=by
 go_enter Tryd.func37,Tryd.ntmps37
 go_wp2
 go_ret
 exact ⟨rfl,rfl⟩
theorem named_4 (w:World):Calls Tryd.prog 37 #[.int .i64 4] w fun e w'=>e=.returned (.int .i64 (10))∧w'=w:=by
 go_enter Tryd.func37,Tryd.ntmps37
 go_wp2
 go_ret
 exact ⟨rfl,rfl⟩
theorem named_5 (w:World):Calls Tryd.prog 37 #[.int .i64 5] w fun e w'=>e=.returned (.int .i64 (0))∧w'=w:=by
 go_enter Tryd.func37,Tryd.ntmps37
 go_wp2
 go_ret
 exact ⟨rfl,rfl⟩
theorem named_6 (w:World):Calls Tryd.prog 37 #[.int .i64 6] w fun e w'=>e=.returned (.int .i64 (0))∧w'=w:=by
 go_enter Tryd.func37,Tryd.ntmps37
 go_wp2
 go_ret
 exact ⟨rfl,rfl⟩
theorem named_100in (w:World)(op s:Int)(h0 : -9223372036854775808≤op)(h1:op≤9223372036854775807)(hs:op.tmod 100=s)(n1:(op == 1)=false)(n2:(op == 2)=false)(n3:(op == 3)=false)(n4:(op == 4)=false)(n5:(op == 5)=false)(n6:(op == 6)=false)(hc:op-s=100)(l0:5≤s)(l1:s≤10):Calls Tryd.prog 37 #[.int .i64 op] w fun e w'=>e=.returned (.int .i64 (14))∧w'=w:=by
 go_enter Tryd.func37,Tryd.ntmps37
 go_wp2
 go_ret
 exact ⟨rfl,rfl⟩
theorem named_100lo (w:World)(op s:Int)(h0 : -9223372036854775808≤op)(h1:op≤9223372036854775807)(hs:op.tmod 100=s)(n1:(op == 1)=false)(n2:(op == 2)=false)(n3:(op == 3)=false)(n4:(op == 4)=false)(n5:(op == 5)=false)(n6:(op == 6)=false)(hc:op-s=100)(l0:s<5):Calls Tryd.prog 37 #[.int .i64 op] w fun e w'=>e=.returned (.int .i64 (-1))∧w'=w:=by
 go_enter Tryd.func37,Tryd.ntmps37
 go_wp2
 go_ret
 exact ⟨rfl,rfl⟩
theorem named_100hi (w:World)(op s:Int)(h0 : -9223372036854775808≤op)(h1:op≤9223372036854775807)(hs:op.tmod 100=s)(n1:(op == 1)=false)(n2:(op == 2)=false)(n3:(op == 3)=false)(n4:(op == 4)=false)(n5:(op == 5)=false)(n6:(op == 6)=false)(hc:op-s=100)(l0:5≤s)(l1:10<s):Calls Tryd.prog 37 #[.int .i64 op] w fun e w'=>e=.returned (.int .i64 (-1))∧w'=w:=by
 go_enter Tryd.func37,Tryd.ntmps37
 go_wp2
 go_ret
 exact ⟨rfl,rfl⟩
theorem named_200in (w:World)(op s:Int)(h0 : -9223372036854775808≤op)(h1:op≤9223372036854775807)(hs:op.tmod 100=s)(n1:(op == 1)=false)(n2:(op == 2)=false)(n3:(op == 3)=false)(n4:(op == 4)=false)(n5:(op == 5)=false)(n6:(op == 6)=false)(hc:op-s=200)(l0:11≤s)(l1:s≤15):Calls Tryd.prog 37 #[.int .i64 op] w fun e w'=>e=.returned (.int .i64 (11))∧w'=w:=by
 go_enter Tryd.func37,Tryd.ntmps37
 go_wp2
 go_ret
 exact ⟨rfl,rfl⟩
theorem named_200lo (w:World)(op s:Int)(h0 : -9223372036854775808≤op)(h1:op≤9223372036854775807)(hs:op.tmod 100=s)(n1:(op == 1)=false)(n2:(op == 2)=false)(n3:(op == 3)=false)(n4:(op == 4)=false)(n5:(op == 5)=false)(n6:(op == 6)=false)(hc:op-s=200)(l0:s<11):Calls Tryd.prog 37 #[.int .i64 op] w fun e w'=>e=.returned (.int .i64 (-1))∧w'=w:=by
 go_enter Tryd.func37,Tryd.ntmps37
 go_wp2
 go_ret
 exact ⟨rfl,rfl⟩
theorem named_200hi (w:World)(op s:Int)(h0 : -9223372036854775808≤op)(h1:op≤9223372036854775807)(hs:op.tmod 100=s)(n1:(op == 1)=false)(n2:(op == 2)=false)(n3:(op == 3)=false)(n4:(op == 4)=false)(n5:(op == 5)=false)(n6:(op == 6)=false)(hc:op-s=200)(l0:11≤s)(l1:15<s):Calls Tryd.prog 37 #[.int .i64 op] w fun e w'=>e=.returned (.int .i64 (-1))∧w'=w:=by
 go_enter Tryd.func37,Tryd.ntmps37
 go_wp2
 go_ret
 exact ⟨rfl,rfl⟩
theorem named_300in (w:World)(op s:Int)(h0 : -9223372036854775808≤op)(h1:op≤9223372036854775807)(hs:op.tmod 100=s)(n1:(op == 1)=false)(n2:(op == 2)=false)(n3:(op == 3)=false)(n4:(op == 4)=false)(n5:(op == 5)=false)(n6:(op == 6)=false)(hc:op-s=300)(l0:16≤s)(l1:s≤18):Calls Tryd.prog 37 #[.int .i64 op] w fun e w'=>e=.returned (.int .i64 (14))∧w'=w:=by
 go_enter Tryd.func37,Tryd.ntmps37
 go_wp2
 go_ret
 exact ⟨rfl,rfl⟩
theorem named_300lo (w:World)(op s:Int)(h0 : -9223372036854775808≤op)(h1:op≤9223372036854775807)(hs:op.tmod 100=s)(n1:(op == 1)=false)(n2:(op == 2)=false)(n3:(op == 3)=false)(n4:(op == 4)=false)(n5:(op == 5)=false)(n6:(op == 6)=false)(hc:op-s=300)(l0:s<16):Calls Tryd.prog 37 #[.int .i64 op] w fun e w'=>e=.returned (.int .i64 (-1))∧w'=w:=by
 go_enter Tryd.func37,Tryd.ntmps37
 go_wp2
 go_ret
 exact ⟨rfl,rfl⟩
theorem named_300hi (w:World)(op s:Int)(h0 : -9223372036854775808≤op)(h1:op≤9223372036854775807)(hs:op.tmod 100=s)(n1:(op == 1)=false)(n2:(op == 2)=false)(n3:(op == 3)=false)(n4:(op == 4)=false)(n5:(op == 5)=false)(n6:(op == 6)=false)(hc:op-s=300)(l0:16≤s)(l1:18<s):Calls Tryd.prog 37 #[.int .i64 op] w fun e w'=>e=.returned (.int .i64 (-1))∧w'=w:=by
 go_enter Tryd.func37,Tryd.ntmps37
 go_wp2
 go_ret
 exact ⟨rfl,rfl⟩
theorem named_400in (w:World)(op s:Int)(h0 : -9223372036854775808≤op)(h1:op≤9223372036854775807)(hs:op.tmod 100=s)(n1:(op == 1)=false)(n2:(op == 2)=false)(n3:(op == 3)=false)(n4:(op == 4)=false)(n5:(op == 5)=false)(n6:(op == 6)=false)(hc:op-s=400)(l0:28≤s)(l1:s≤45):Calls Tryd.prog 37 #[.int .i64 op] w fun e w'=>e=.returned (.int .i64 (7))∧w'=w:=by
 go_enter Tryd.func37,Tryd.ntmps37
 go_wp2
 go_ret
 exact ⟨rfl,rfl⟩
theorem named_400lo (w:World)(op s:Int)(h0 : -9223372036854775808≤op)(h1:op≤9223372036854775807)(hs:op.tmod 100=s)(n1:(op == 1)=false)(n2:(op == 2)=false)(n3:(op == 3)=false)(n4:(op == 4)=false)(n5:(op == 5)=false)(n6:(op == 6)=false)(hc:op-s=400)(l0:s<28):Calls Tryd.prog 37 #[.int .i64 op] w fun e w'=>e=.returned (.int .i64 (-1))∧w'=w:=by
 go_enter Tryd.func37,Tryd.ntmps37
 go_wp2
 go_ret
 exact ⟨rfl,rfl⟩
theorem named_400hi (w:World)(op s:Int)(h0 : -9223372036854775808≤op)(h1:op≤9223372036854775807)(hs:op.tmod 100=s)(n1:(op == 1)=false)(n2:(op == 2)=false)(n3:(op == 3)=false)(n4:(op == 4)=false)(n5:(op == 5)=false)(n6:(op == 6)=false)(hc:op-s=400)(l0:28≤s)(l1:45<s):Calls Tryd.prog 37 #[.int .i64 op] w fun e w'=>e=.returned (.int .i64 (-1))∧w'=w:=by
 go_enter Tryd.func37,Tryd.ntmps37
 go_wp2
 go_ret
 exact ⟨rfl,rfl⟩
theorem named_500in (w:World)(op s:Int)(h0 : -9223372036854775808≤op)(h1:op≤9223372036854775807)(hs:op.tmod 100=s)(n1:(op == 1)=false)(n2:(op == 2)=false)(n3:(op == 3)=false)(n4:(op == 4)=false)(n5:(op == 5)=false)(n6:(op == 6)=false)(hc:op-s=500)(l0:28≤s)(l1:s≤45):Calls Tryd.prog 37 #[.int .i64 op] w fun e w'=>e=.returned (.int .i64 (11))∧w'=w:=by
 go_enter Tryd.func37,Tryd.ntmps37
 go_wp2
 go_ret
 exact ⟨rfl,rfl⟩
theorem named_500lo (w:World)(op s:Int)(h0 : -9223372036854775808≤op)(h1:op≤9223372036854775807)(hs:op.tmod 100=s)(n1:(op == 1)=false)(n2:(op == 2)=false)(n3:(op == 3)=false)(n4:(op == 4)=false)(n5:(op == 5)=false)(n6:(op == 6)=false)(hc:op-s=500)(l0:s<28):Calls Tryd.prog 37 #[.int .i64 op] w fun e w'=>e=.returned (.int .i64 (-1))∧w'=w:=by
 go_enter Tryd.func37,Tryd.ntmps37
 go_wp2
 go_ret
 exact ⟨rfl,rfl⟩
theorem named_500hi (w:World)(op s:Int)(h0 : -9223372036854775808≤op)(h1:op≤9223372036854775807)(hs:op.tmod 100=s)(n1:(op == 1)=false)(n2:(op == 2)=false)(n3:(op == 3)=false)(n4:(op == 4)=false)(n5:(op == 5)=false)(n6:(op == 6)=false)(hc:op-s=500)(l0:28≤s)(l1:45<s):Calls Tryd.prog 37 #[.int .i64 op] w fun e w'=>e=.returned (.int .i64 (-1))∧w'=w:=by
 go_enter Tryd.func37,Tryd.ntmps37
 go_wp2
 go_ret
 exact ⟨rfl,rfl⟩
theorem named_600in (w:World)(op s:Int)(h0 : -9223372036854775808≤op)(h1:op≤9223372036854775807)(hs:op.tmod 100=s)(n1:(op == 1)=false)(n2:(op == 2)=false)(n3:(op == 3)=false)(n4:(op == 4)=false)(n5:(op == 5)=false)(n6:(op == 6)=false)(hc:op-s=600)(l0:46≤s)(l1:s≤56):Calls Tryd.prog 37 #[.int .i64 op] w fun e w'=>e=.returned (.int .i64 (7))∧w'=w:=by
 go_enter Tryd.func37,Tryd.ntmps37
 go_wp2
 go_ret
 exact ⟨rfl,rfl⟩
theorem named_600lo (w:World)(op s:Int)(h0 : -9223372036854775808≤op)(h1:op≤9223372036854775807)(hs:op.tmod 100=s)(n1:(op == 1)=false)(n2:(op == 2)=false)(n3:(op == 3)=false)(n4:(op == 4)=false)(n5:(op == 5)=false)(n6:(op == 6)=false)(hc:op-s=600)(l0:s<46):Calls Tryd.prog 37 #[.int .i64 op] w fun e w'=>e=.returned (.int .i64 (-1))∧w'=w:=by
 go_enter Tryd.func37,Tryd.ntmps37
 go_wp2
 go_ret
 exact ⟨rfl,rfl⟩
theorem named_600hi (w:World)(op s:Int)(h0 : -9223372036854775808≤op)(h1:op≤9223372036854775807)(hs:op.tmod 100=s)(n1:(op == 1)=false)(n2:(op == 2)=false)(n3:(op == 3)=false)(n4:(op == 4)=false)(n5:(op == 5)=false)(n6:(op == 6)=false)(hc:op-s=600)(l0:46≤s)(l1:56<s):Calls Tryd.prog 37 #[.int .i64 op] w fun e w'=>e=.returned (.int .i64 (-1))∧w'=w:=by
 go_enter Tryd.func37,Tryd.ntmps37
 go_wp2
 go_ret
 exact ⟨rfl,rfl⟩
theorem named_out (w:World)(op s:Int)(h0 : -9223372036854775808≤op)(h1:op≤9223372036854775807)(hs:op.tmod 100=s)(n1:(op == 1)=false)(n2:(op == 2)=false)(n3:(op == 3)=false)(n4:(op == 4)=false)(n5:(op == 5)=false)(n6:(op == 6)=false)(m100:(op-s == 100)=false)(m200:(op-s == 200)=false)(m300:(op-s == 300)=false)(m400:(op-s == 400)=false)(m500:(op-s == 500)=false)(m600:(op-s == 600)=false)(b0 : -9223372036854775808≤op-s)(b1:op-s≤9223372036854775807):Calls Tryd.prog 37 #[.int .i64 op] w fun e w'=>e=.returned (.int .i64 (-1))∧w'=w:=by
 generalize hc:op-s=c at *
 go_enter Tryd.func37,Tryd.ntmps37
 go_wp2
 go_ret
 exact ⟨rfl,rfl⟩
theorem named_any (op:Int)(w:World)(h0 : -9223372036854775808≤op)(h1:op≤9223372036854775807):Calls Tryd.prog 37 #[.int .i64 op] w fun e w'=>e=.returned (.int .i64 (named op))∧w'=w:=by
 obtain ⟨s,hs,hb⟩:=left100 op
 by_cases e1:op=1
 ·subst e1;exact named_1 w
 by_cases e2:op=2
 ·subst e2;exact named_2 w
 by_cases e3:op=3
 ·subst e3;exact named_3 w
 by_cases e4:op=4
 ·subst e4;exact named_4 w
 by_cases e5:op=5
 ·subst e5;exact named_5 w
 by_cases e6:op=6
 ·subst e6;exact named_6 w
 by_cases c100:op-s=100
 ·by_cases l0:5≤s
  ·by_cases l1:s≤10
   ·have en:named op=14:=by
     unfold named
     repeat' split
     all_goals omega
    rw [en]
    exact named_100in w op s h0 h1 hs (by simp;omega) (by simp;omega) (by simp;omega) (by simp;omega) (by simp;omega) (by simp;omega) c100 l0 l1
   ·have en:named op = -1:=by
     unfold named
     repeat' split
     all_goals omega
    rw [en]
    exact named_100hi w op s h0 h1 hs (by simp;omega) (by simp;omega) (by simp;omega) (by simp;omega) (by simp;omega) (by simp;omega) c100 l0 (by omega)
  ·have en:named op = -1:=by
    unfold named
    repeat' split
    all_goals omega
   rw [en]
   exact named_100lo w op s h0 h1 hs (by simp;omega) (by simp;omega) (by simp;omega) (by simp;omega) (by simp;omega) (by simp;omega) c100 (by omega)
 by_cases c200:op-s=200
 ·by_cases l0:11≤s
  ·by_cases l1:s≤15
   ·have en:named op=11:=by
     unfold named
     repeat' split
     all_goals omega
    rw [en]
    exact named_200in w op s h0 h1 hs (by simp;omega) (by simp;omega) (by simp;omega) (by simp;omega) (by simp;omega) (by simp;omega) c200 l0 l1
   ·have en:named op = -1:=by
     unfold named
     repeat' split
     all_goals omega
    rw [en]
    exact named_200hi w op s h0 h1 hs (by simp;omega) (by simp;omega) (by simp;omega) (by simp;omega) (by simp;omega) (by simp;omega) c200 l0 (by omega)
  ·have en:named op = -1:=by
    unfold named
    repeat' split
    all_goals omega
   rw [en]
   exact named_200lo w op s h0 h1 hs (by simp;omega) (by simp;omega) (by simp;omega) (by simp;omega) (by simp;omega) (by simp;omega) c200 (by omega)
 by_cases c300:op-s=300
 ·by_cases l0:16≤s
  ·by_cases l1:s≤18
   ·have en:named op=14:=by
     unfold named
     repeat' split
     all_goals omega
    rw [en]
    exact named_300in w op s h0 h1 hs (by simp;omega) (by simp;omega) (by simp;omega) (by simp;omega) (by simp;omega) (by simp;omega) c300 l0 l1
   ·have en:named op = -1:=by
     unfold named
     repeat' split
     all_goals omega
    rw [en]
    exact named_300hi w op s h0 h1 hs (by simp;omega) (by simp;omega) (by simp;omega) (by simp;omega) (by simp;omega) (by simp;omega) c300 l0 (by omega)
  ·have en:named op = -1:=by
    unfold named
    repeat' split
    all_goals omega
   rw [en]
   exact named_300lo w op s h0 h1 hs (by simp;omega) (by simp;omega) (by simp;omega) (by simp;omega) (by simp;omega) (by simp;omega) c300 (by omega)
 by_cases c400:op-s=400
 ·by_cases l0:28≤s
  ·by_cases l1:s≤45
   ·have en:named op=7:=by
     unfold named
     repeat' split
     all_goals omega
    rw [en]
    exact named_400in w op s h0 h1 hs (by simp;omega) (by simp;omega) (by simp;omega) (by simp;omega) (by simp;omega) (by simp;omega) c400 l0 l1
   ·have en:named op = -1:=by
     unfold named
     repeat' split
     all_goals omega
    rw [en]
    exact named_400hi w op s h0 h1 hs (by simp;omega) (by simp;omega) (by simp;omega) (by simp;omega) (by simp;omega) (by simp;omega) c400 l0 (by omega)
  ·have en:named op = -1:=by
    unfold named
    repeat' split
    all_goals omega
   rw [en]
   exact named_400lo w op s h0 h1 hs (by simp;omega) (by simp;omega) (by simp;omega) (by simp;omega) (by simp;omega) (by simp;omega) c400 (by omega)
 by_cases c500:op-s=500
 ·by_cases l0:28≤s
  ·by_cases l1:s≤45
   ·have en:named op=11:=by
     unfold named
     repeat' split
     all_goals omega
    rw [en]
    exact named_500in w op s h0 h1 hs (by simp;omega) (by simp;omega) (by simp;omega) (by simp;omega) (by simp;omega) (by simp;omega) c500 l0 l1
   ·have en:named op = -1:=by
     unfold named
     repeat' split
     all_goals omega
    rw [en]
    exact named_500hi w op s h0 h1 hs (by simp;omega) (by simp;omega) (by simp;omega) (by simp;omega) (by simp;omega) (by simp;omega) c500 l0 (by omega)
  ·have en:named op = -1:=by
    unfold named
    repeat' split
    all_goals omega
   rw [en]
   exact named_500lo w op s h0 h1 hs (by simp;omega) (by simp;omega) (by simp;omega) (by simp;omega) (by simp;omega) (by simp;omega) c500 (by omega)
 by_cases c600:op-s=600
 ·by_cases l0:46≤s
  ·by_cases l1:s≤56
   ·have en:named op=7:=by
     unfold named
     repeat' split
     all_goals omega
    rw [en]
    exact named_600in w op s h0 h1 hs (by simp;omega) (by simp;omega) (by simp;omega) (by simp;omega) (by simp;omega) (by simp;omega) c600 l0 l1
   ·have en:named op = -1:=by
     unfold named
     repeat' split
     all_goals omega
    rw [en]
    exact named_600hi w op s h0 h1 hs (by simp;omega) (by simp;omega) (by simp;omega) (by simp;omega) (by simp;omega) (by simp;omega) c600 l0 (by omega)
  ·have en:named op = -1:=by
    unfold named
    repeat' split
    all_goals omega
   rw [en]
   exact named_600lo w op s h0 h1 hs (by simp;omega) (by simp;omega) (by simp;omega) (by simp;omega) (by simp;omega) (by simp;omega) c600 (by omega)
 have en:named op = -1:=by
  unfold named
  repeat' split
  all_goals omega
 rw [en]
 exact named_out w op s h0 h1 hs (by simp;omega) (by simp;omega) (by simp;omega) (by simp;omega) (by simp;omega) (by simp;omega) (by simp;omega) (by simp;omega) (by simp;omega) (by simp;omega) (by simp;omega) (by simp;omega) (by omega) (by omega)
def pw:Nat→Int
 | 0=>1
 | 1=>2
 | 2=>4
 | _=>8
theorem named_vals {op:Int}(h:0≤named op):named op=0∨named op=7∨named op=8∨named op=9∨named op=10∨named op=11∨named op=14:=by
 unfold named at *
 repeat' split at h
 all_goals (repeat' split)
 all_goals omega
theorem all_take1 (f:α→Bool)(l:List α)(k:Nat)(x:α)(h:l[k]?=some x):(l.take (k+1)).all f=((l.take k).all f && f x):=by
 rw [List.take_add_one,h]
 simp
theorem all_no {f:α→Bool}{l:List α}{k:Nat}{x:α}(h:l[k]?=some x)(hx:f x=false):l.all f=false:=by
 rw [List.all_eq_false]
 exact ⟨x,List.mem_of_getElem? h,by simp [hx]⟩
theorem mic_no1 (h:named i.op<0):micOk i=false:=by unfold micOk;rw [decide_eq_false (by omega)];rfl
theorem mic_no2 (h:named i.op<8)(h2:¬i.n=0):micOk i=false:=by unfold micOk;rw [decide_eq_false (p:=8≤named i.op∨i.n=0) (by omega)];simp
theorem mic_no3 (h:regOk (decide (named i.op%2=1)) i.d=false):micOk i=false:=by unfold micOk;rw [h];simp
theorem mic_no4 (h:regOk (decide (named i.op/2%2=1)) i.a=false):micOk i=false:=by unfold micOk;rw [h];simp
theorem mic_no5 (h:regOk (decide (named i.op/4%2=1)) i.b=false):micOk i=false:=by unfold micOk;rw [h];simp
theorem mic_yes (h:0≤named i.op)(h2:8≤named i.op∨i.n=0)(h3:regOk (decide (named i.op%2=1)) i.d=true)(h4:regOk (decide (named i.op/2%2=1)) i.a=true)(h5:regOk (decide (named i.op/4%2=1)) i.b=true):micOk i=true:=by
 unfold micOk;rw [h3,h4,h5,decide_eq_true h,decide_eq_true h2];rfl
theorem reg_no (h:(b=false∧¬x=0)∨x<0∨36≤x):regOk b x=false:=by
 unfold regOk
 refine decide_eq_false ?_
 rintro ⟨h1,h2,h3⟩
 rcases h with ⟨h4,h5⟩|h4|h4
 ·rcases h1 with h1|h1
  ·rw [h4] at h1;cases h1
  ·exact h5 h1
 ·omega
 ·omega
theorem reg_yes (h:b=true∨x=0)(h0:0≤x)(h1:x<36):regOk b x=true:=decide_eq_true ⟨h,h0,h1⟩
end Go.Proofs.YtkdghgiajifbdaaDoor.Mi
namespace Go.Proofs.YtkdghgiajifbdaaDoor.Mi
open Mm Wd Hh

variable {r : Rn} {code : List Mv} {j : Nat} {i : Mv}
theorem mrun_over (bf bt steps:Int)(h:r.over=true):∀l,mrun bf bt steps r l=r
 | []=>rfl
 | i::is=>by unfold mrun;rw [if_pos h]
theorem mrun_append (bf bt steps:Int):∀(l k:List Mv) (r:Rn),mrun bf bt steps r (l++k)=mrun bf bt steps (mrun bf bt steps r l) k
 | [],k,r=>rfl
 | i::is,k,r=>by
  by_cases h:r.over=true
  ·rw [mrun_over _ _ _ h,mrun_over _ _ _ h,mrun_over _ _ _ h]
  ·rw [List.cons_append,mrun,if_neg h,mrun_append bf bt steps is k,mrun,if_neg h]
theorem mrun_take (bf bt steps:Int)(hi:code[j]?=some i)(ho:(mrun bf bt steps r (code.take j)).over=false):mrun bf bt steps r (code.take (j+1))=mic bf bt steps (mrun bf bt steps r (code.take j)) i:=by
 rw [List.take_add_one,hi,mrun_append]
 show mrun bf bt steps _ [i]=_
 rw [mrun,if_neg (by simp [ho]),mrun]
theorem mrun_done (bf bt steps:Int)(ho:(mrun bf bt steps r (code.take j)).over=true):mrun bf bt steps r code=mrun bf bt steps r (code.take j):=by
 have e:=mrun_append bf bt steps (code.take j) (code.drop j) r
 rw [List.take_append_drop] at e
 rw [e,mrun_over _ _ _ ho]
structure Bd (r r':Rn):Prop where
 m:r'.m.length=r.m.length
 sto:r'.sto.length≤r.sto.length+1
 out:r'.out.length≤r.out.length+1
 n:r'.n≤r.n+1
theorem Bd.refl (r:Rn):Bd r r:=⟨rfl,by omega,by omega,by omega⟩
theorem bd_put {r':Rn}(h:Bd r r')(k x:Int):Bd r (r'.put k x):=by
 unfold Rn.put
 split
 ·exact ⟨h.m,h.sto,h.out,h.n⟩
 ·exact ⟨h.m,h.sto,h.out,h.n⟩
theorem stL_length {l:List UInt8}{op a x:Int}(h:stOk l op a=true):(stL l op a x).length=l.length:=by
 unfold stL
 rw [if_pos h,len_put]
theorem bd_trap (r:Rn)(c:Int):Bd r (r.trap c):=⟨rfl,by simp [Rn.trap],by simp [Rn.trap],by simp [Rn.trap]⟩
theorem bd_stop (r:Rn)(c:Int):Bd r (r.stop c):=⟨rfl,by simp [Rn.stop],by simp [Rn.stop],by simp [Rn.stop]⟩
theorem bd_stored {h:Hv}{m:List UInt8}(hm:m.length=r.m.length)(bf bt p:Int)(k:Nat):Bd r ({ r with h:=h,m:=m }.stored bf bt p k):=⟨hm,by simp [Rn.stored],by simp [Rn.stored],by simp [Rn.stored]⟩
theorem bd_hart (r:Rn)(h:Hv):Bd r { r with h:=h }:=⟨rfl,by simp,by simp,by simp⟩
theorem bd_mOp (bf bt:Int)(r:Rn)(c op:Int)(i:Mv):Bd r (mOp bf bt r c op i):=by
 unfold mOp
 split
 ·split
  ·exact bd_stop r _
  ·exact Bd.refl r
 split
 ·unfold mLoad
  split
  ·exact bd_put (Bd.refl r) _ _
  ·exact bd_trap r _
 split
 ·unfold mStore
  split
  ·rename_i h
   exact bd_stored (h:=r.h) (stL_length h) _ _ _ _
  ·exact bd_trap r _
 split
 ·exact bd_put (Bd.refl r) _ _
 split
 ·exact bd_put (Bd.refl r) _ _
 split
 ·unfold mAtom
  split
  ·unfold mLr
   split
   ·exact bd_put (bd_hart r _) _ _
   ·exact bd_trap r _
  split
  ·unfold mSc
   split
   ·rename_i h
    split
    ·exact bd_put (bd_stored (stL_length (st_of_ld h)) _ _ _ _) _ _
    ·exact bd_put (bd_hart r _) _ _
   ·exact bd_trap r _
  ·unfold mAmo
   split
   ·rename_i h
    exact bd_put (bd_stored (h:=r.h) (stL_length (st_of_ld h)) _ _ _ _) _ _
   ·exact bd_trap r _
 ·exact Bd.refl r
theorem bd_mic (bf bt steps:Int)(r:Rn)(i:Mv):Bd r (mic bf bt steps r i):=by
 unfold mic
 split
 ·unfold mAt
  split
  ·exact bd_stop r _
  ·exact ⟨rfl,by simp,by simp,by simp⟩
 split
 ·exact bd_put (Bd.refl r) _ _
 split
 ·exact bd_stop r _
 split
 ·exact bd_stop r _
 split
 ·unfold mCall
  split
  ·exact ⟨rfl,by simp,by simp,by simp⟩
  split
  ·exact ⟨rfl,by simp,by simp,by simp⟩
  ·exact bd_trap r _
 split
 ·exact bd_trap r _
 ·exact bd_mOp bf bt r _ _ i
theorem bd_mrun (bf bt steps:Int)(r:Rn)(code:List Mv):∀j,(mrun bf bt steps r (code.take j)).m.length=r.m.length∧(mrun bf bt steps r (code.take j)).sto.length≤r.sto.length+j∧(mrun bf bt steps r (code.take j)).out.length≤r.out.length+j∧(mrun bf bt steps r (code.take j)).n≤r.n+j
 | 0=>⟨rfl,by simp [mrun],by simp [mrun],by simp [mrun]⟩
 | j+1=>by
  obtain ⟨h1,h2,h3,h4⟩:=bd_mrun bf bt steps r code j
  cases hi:code[j]? with
  | none=>
   have e:code.take (j+1)=code.take j:=by rw [List.take_add_one,hi];simp
   rw [e]
   exact ⟨h1,by omega,by omega,by omega⟩
  | some i=>
   cases ho:(mrun bf bt steps r (code.take j)).over with
   | false=>
    rw [mrun_take bf bt steps hi ho]
    have b:=bd_mic bf bt steps (mrun bf bt steps r (code.take j)) i
    have b2:=b.sto
    have b3:=b.out
    have b4:=b.n
    exact ⟨b.m.trans h1,by omega,by omega,by omega⟩
   | true=>
    have e:mrun bf bt steps r (code.take (j+1))=mrun bf bt steps r (code.take j):=by
     rw [List.take_add_one,hi,mrun_append,mrun_over _ _ _ ho]
    rw [e]
    exact ⟨h1,by omega,by omega,by omega⟩
theorem micOk_named (h:micOk i=true):0≤named i.op∧(0≤i.d∧i.d<36)∧(0≤i.a∧i.a<36)∧0≤i.b∧i.b<36:=by
 unfold micOk regOk at h
 simp only [Bool.and_eq_true,decide_eq_true_eq] at h
 obtain ⟨h1,_,⟨_,h2⟩,⟨_,h3⟩,⟨_,h4⟩⟩:=h
 exact ⟨h1,h2,h3,h4⟩
end Go.Proofs.YtkdghgiajifbdaaDoor.Mi
namespace Go.Proofs.YtkdghgiajifbdaaDoor.Hc
open Go.ChangeShapes Go.WideShapes Go.ChangeAt Go.RowKit Mm Hh

variable {P : Program} {t : TypeId} {h : Hv} {ops : Array Oper} {o : Oper} {a : Act} {w : World} {K : Act → World → Prop} {Q : Exit → Act → World → Prop} {E : Prop}
theorem fold_set (off:Nat)(v cs:Array Value):(v.zipIdx.foldl (fun cs (x:Value×Nat)=>cs.setIfInBounds (off+x.2) x.1) cs).size=cs.size∧
  ∀k,(v.zipIdx.foldl (fun cs (x:Value×Nat)=>cs.setIfInBounds (off+x.2) x.1) cs)[k]?=if off≤k∧k<off+v.size∧k<cs.size then v[k-off]? else cs[k]?:=by
 have h:=Great.foldl_set off v.toList 0 cs
 rw [←Array.foldl_toList,Array.toList_zipIdx]
 refine ⟨h.1,fun k=>?_⟩
 rw [h.2 k]
 simp
theorem built_two {it:TypeInfo}{z:Value}{fs:Array Field}{ps:List (Nat×Nat)}(hi:P.info? t=some it)(hu:P.underlying t=some (.struct fs))(hz:it.zero=some z)
  (hp:fs.toList.mapM (fun f=>(P.info? f.type).map fun i=>(f.offset,i.size))=some ps){n:Nat}(p0:ps.toArray[0]?=some (0,n))(p1:ps.toArray[1]?=some (n,1))(A:Array Value)(hA:A.size=n)(v:Value)(hv:v.cells=#[v])(hs:n+1≤z.cells.size)
  (R:Array Value)(hR:R.size=z.cells.size)(h1:∀k,k<n→R[k]?=A[k]?)(h2:R[n]?=some v)(h3:∀k,n<k→R[k]?=z.cells[k]?):P.built t [(0,.agg A),(1,v)]=some R:=by
 unfold Program.built
 simp only [hi,hu,hz,hp]
 have a1:=fold_set 0 A z.cells
 have a2:=fold_set n #[v] (A.zipIdx.foldl (fun cs (x:Value×Nat)=>cs.setIfInBounds (0+x.2) x.1) z.cells)
 unfold Instr.fill
 simp only [p0]
 have e:(Value.agg A).cells=A:=rfl
 rw [e,if_neg (by simp [hA];omega)]
 unfold Instr.fill
 simp only [p1]
 rw [hv,if_neg (by rw [a1.1];simp;omega)]
 unfold Instr.fill
 congr 1
 apply Array.ext_getElem?
 intro k
 rw [a2.2 k,a1.2 k,a1.1]
 by_cases hk:k<n
 ·rw [if_neg (by omega),if_pos (by omega),h1 k hk];simp
 ·by_cases hk2:k=n
  ·subst hk2
   rw [if_pos (by simp;omega),h2];simp
  ·rw [if_neg (by simp;omega),if_neg (by omega),h3 k (by omega)]
theorem info_zero {v:Value}(h:(P.info? t).bind (·.zero)=some v):∃it,P.info? t=some it∧it.zero=some v:=by
 cases hi:P.info? t with
 | none=>simp [hi] at h
 | some it=>exact ⟨it,rfl,by simpa [hi] using h⟩
def h0:Hv:=⟨List.replicate 32 0,0,false,0,0,0⟩
theorem h0_ok:h0.Ok:=⟨rfl,fun i=>by unfold rg h0;simp only [List.getD,List.getElem?_replicate];split<;>simp,by decide,by decide,by decide,by decide⟩
def nilS:Value:=.slice none 0 0
theorem zDid:(Tryd.prog.info? 95).bind (·.zero)=some (.agg (dA ⟨h0,nilS,nilS,0,0⟩)):=by kernel_rfl
theorem built_did (o:h.Ok)(v:Value)(hv:v.cells=#[v]):Tryd.prog.built 95 [(0,.agg (hA h)),(1,v)]=some (dA ⟨h,v,nilS,0,0⟩):=by
 obtain ⟨it,hi,hz⟩:=info_zero zDid
 have hl:=hL_len o
 have z:=hL_len h0_ok
 refine built_two (n:=37) hi Tryd.underlying95 hz (ps:=[(0,37),(37,1),(38,1),(39,1),(40,1)]) (by kernel_rfl) rfl rfl (hA h) (hA_size o) v hv (by show 38≤(dA _).size;rw [dA_size h0_ok];omega) _ ?_ ?_ ?_ ?_
 ·show (dA _).size=(dA _).size;rw [dA_size (d:=⟨h,v,nilS,0,0⟩) o,dA_size h0_ok]
 ·intro k hk;rw [dA_get (d:=⟨h,v,nilS,0,0⟩) o hk];simp [hA]
 ·exact dA_fld (d:=⟨h,v,nilS,0,0⟩) o 0
 ·intro k hk
  obtain ⟨j,rfl⟩:∃j,k=37+(j+1):=⟨k-38,by omega⟩
  show (dA _)[_]?=(dA _)[_]?
  rw [dA_fld (d:=⟨h,v,nilS,0,0⟩) o,dA_fld (d:=⟨h0,nilS,nilS,0,0⟩) h0_ok]
  rfl
theorem step_load_row (hgd:o.guard=none)(ty:TypeId)(x:Operand)(ho:o.op=.load ty x)
  (g:Nat)(hx:a.eval x=.pointer (some ⟨g,0,none⟩))(t:TypeId)(cs:Array Value)(fr:Nat×Nat)(d:TypeDesc)(hg:w.heap[g]?=some (.cells cs t fr))
  (hu:P.underlying ty=some d)(hd:(match d with|.struct _|.array _ _=>true|_=>false)=true)(hi:(P.info? ty).map (·.size)=some cs.size)
  (h:K (a.put o.dst (.agg cs)) w):if Region.wanted o (yielded ops a.tmps)=true then Oper.wp P o a w K Q else E:=by
 rw [if_pos (by simp [Region.wanted,hgd])]
 exact wp_load_row ty x ho g hx t cs fr d hg hu hd hi h
theorem step_store (hg:o.guard=none)(ty:TypeId)(x y:Operand)(ho:o.op=.store ty x y)
  (g:Nat)(cells:Array Value)(hx:a.eval x=.pointer (some ⟨g,0,none⟩))(hy:a.eval y=.agg cells)(t:TypeId)(old:Array Value)(hb:w.heap[g]?=some (.cells old t (0,0)))(hi:(P.info? ty).map (·.size)=some cells.size)
  (hold:old.size=cells.size)(h1:cells.all (·.oneCell')=true)(h:K (a.put o.dst undef) (w.setRow g cells)):if Region.wanted o (yielded ops a.tmps)=true then Oper.wp P o a w K Q else E:=by
 rw [if_pos (by simp [Region.wanted,hg])]
 unfold Oper.wp execOp
 simp only [ho,hx,hy,Instr.storeAt,Instr.sureAddr,Sem.run_bind,Sem.run_pure,Result.andThen_ok,run_storeVar_row w g t ty old cells hb hi hold h1]
 exact h
end Go.Proofs.YtkdghgiajifbdaaDoor.Hc
